import Derived.Test.YthbfomcmjjnikaaGreatPackVa
import Derived.Test.YthbfomcmjjnikaaGreatRdO
import Derived.Test.YthbfomcmjjnikaaGreatPackH
set_option linter.unusedSimpArgs false
set_option linter.unusedVariables false
namespace Go.Proofs.YthbfomcmjjnikaaGreat
open Go.RowKit Go.Sort

/-- How far a number is above another, as it wraps round. -/
def offN (least : Int) (x : Val) : Nat := ((x.n - least) % 18446744073709551616).toNat
theorem offN_lt (least : Int) (x : Val) : offN least x < 18446744073709551616 := by unfold offN; omega
theorem offN_wrap (least : Int) (x : Val) : IntKind.u64.wrap (IntKind.u64.wrap x.n - IntKind.u64.wrap least) = (offN least x : Int) := by
  simp only [IntKind.wrap_u64, offN]
  omega
def leastI : List Val → Int
  | [] => 0
  | x :: xs => (minFrom x xs).n
def widL (least : Int) (xs : List Val) : Nat := xs.foldl (fun m x => max m (bl (offN least x))) 0
theorem widL_next {least : Int} {xs : List Val} {k : Nat} {x : Val} (h : xs[k]? = some x) : widL least (xs.take (k + 1)) = max (widL least (xs.take k)) (bl (offN least x)) := by
  obtain ⟨h1, rfl⟩ := List.getElem?_eq_some_iff.1 h
  unfold widL
  rw [List.take_succ_eq_append_getElem h1, List.foldl_append]
  rfl
theorem wid_acc (least : Int) : ∀ (xs : List Val) (m : Nat), m ≤ 64 → xs.foldl (fun m x => max m (bl (offN least x))) m ≤ 64
  | [], m, h => h
  | x :: xs, m, h => by
    rw [List.foldl_cons]
    refine wid_acc least xs _ ?_
    have : bl (offN least x) ≤ 64 := bl_le (by have := offN_lt least x; simpa using this)
    omega
theorem widL_le (least : Int) (xs : List Val) : widL least xs ≤ 64 := wid_acc least xs 0 (by omega)
theorem wid_ge (least : Int) : ∀ (xs : List Val) (m : Nat), m ≤ xs.foldl (fun m x => max m (bl (offN least x))) m ∧ ∀ x ∈ xs, bl (offN least x) ≤ xs.foldl (fun m x => max m (bl (offN least x))) m
  | [], m => ⟨Nat.le_refl _, fun x h => by cases h⟩
  | x :: xs, m => by
    rw [List.foldl_cons]
    obtain ⟨h1, h2⟩ := wid_ge least xs (max m (bl (offN least x)))
    refine ⟨by omega, fun y hy => ?_⟩
    rcases List.mem_cons.1 hy with rfl | hy
    · omega
    · exact h2 y hy
theorem widL_ge {least : Int} {xs : List Val} {x : Val} (h : x ∈ xs) : offN least x < 2 ^ widL least xs := by
  have h1 := (wid_ge least xs 0).2 x h
  exact Nat.lt_of_lt_of_le (bl_lt _) (Nat.pow_le_pow_right (by decide) h1)
def offsB (least : Int) (xs : List Val) : List Int := (beL (IntKind.u64.wrap least) 8 8 ++ beL (widL least xs : Int) 1 1) ++ leB (total (widL least xs) (xs.map (offN least))) (bytesN xs.length (widL least xs))

set_option maxHeartbeats 8000000 in
set_option maxRecDepth 100000 in
theorem apoffs_any (base b0 : Nat) (zs : List Int) (xs : List Val) (vv v : Value) (w : World) (hown : OwnB w base v zs) (hlen : zs.length ≤ 1000000) (hl : xs.length ≤ 4096) (hbase : base ≤ w.heap.size) (ha : OwnV w b0 vv xs) :
    Calls Tryz.prog 118 #[v, vv] w fun e w' => ∃ v', e = .returned v' ∧ OwnB w' base v' (zs ++ offsB (leastI xs) xs) ∧ Grew w w' v v' := by
  obtain ⟨i6, hi6, z60, z61, z62⟩ := info_parts Tryz.info73
  obtain ⟨aa, ca, rfl, hspot, hnone, hrow⟩ := ownV_slice ha
  have hgv : ∀ g, v.ownBlock = some g → g < w.heap.size := fun g hg => (ownB_lt hown hg).2
  obtain ⟨ls, hls⟩ : ∃ ls, Hid (ls = leastI xs) := ⟨_, rfl⟩
  rw [← unhide hls]
  obtain ⟨ns, hns⟩ : ∃ ns, Hid (ns = xs.map (offN ls)) := ⟨_, rfl⟩
  have HNL : Hid (ns.length = xs.length) := by show _ = _; rw [unhide hns]; simp
  have HOWN := hide hown
  have HROW := hide hrow
  have HGV := hide hgv
  have HSEP : Hid (∀ ad, aa = some ad → v.ownBlock ≠ some ad.block) := fun ad e => ownB_ownV_ne hown ha ad.block (by rw [e]; rfl)
  have H5 : Hid (∀ W, Below w.heap.size w W → Calls Tryz.prog 112 #[v, .int .u64 (IntKind.u64.wrap ls), .int .i64 8] W fun e w' => ∃ v', e = .returned v' ∧ OwnB w' base v' (zs ++ beL (IntKind.u64.wrap ls) 8 8) ∧ Grew W w' v v') := fun W hW =>
    appnum_any base zs _ 8 v W (by omega) (own_later hown hW) (by omega) (by have := hW.size; omega)
  have H6 : Hid (∀ W v' (D : Nat), base ≤ W.heap.size → OwnB W base v' (zs ++ beL (IntKind.u64.wrap ls) 8 8) → Calls Tryz.prog 112 #[v', .int .u64 (D : Int), .int .i64 1] W fun e w' => ∃ v3, e = .returned v3 ∧ OwnB w' base v3 (zs ++ (beL (IntKind.u64.wrap ls) 8 8 ++ beL (D : Int) 1 1)) ∧ Grew W w' v' v3) := fun W v' D hW hO =>
    (appnum_any base _ (D : Int) 1 v' W (by omega) hO (by rw [List.length_append, beL_len]; omega) hW).mono fun e w' ⟨v3, he, h1, h2⟩ => ⟨v3, he, by rw [← List.append_assoc]; exact h1, h2⟩
  cases hxs : xs with
  | nil =>
    subst hxs
    have e0 : ls = 0 := unhide hls
    have HW0 : Hid (IntKind.u64.wrap ls = 0) := by show _ = _; rw [e0]; rfl
    have H7 : Hid (∀ W v8, OwnB W base v8 (zs ++ (beL (IntKind.u64.wrap ls) 8 8 ++ beL ((0 : Nat) : Int) 1 1)) → Grew w W v v8 → LisAt W (some ⟨w.heap.size, 0, none⟩) (([] : List Nat).map fun n : Nat => Value.int .u64 (n : Int)) → v8.ownBlock ≠ some w.heap.size → Calls Tryz.prog 139 #[v8, .slice (some ⟨w.heap.size, 0, none⟩) 0 0, .int .i64 0] W fun e w' => ∃ v3, e = .returned v3 ∧ OwnB w' base v3 (zs ++ offsB ls []) ∧ Grew w w' v v3) := fun W v8 o1 o2 l1 l2 => by
      have := apbits_any base _ (some ⟨w.heap.size, 0, none⟩) 0 [] 0 v8 W o1 (by rw [List.length_append, List.length_append, beL_len, beL_len]; omega) (by simp) (by omega) (fun n hn => by cases hn) (by have := o2.1.size; omega) l1 (fun ad e => by injection e with e; subst e; exact l2)
      refine this.mono fun e w' ⟨v3, he, h5, h6⟩ => ⟨v3, he, ?_, o2.trans h6⟩
      rw [offsB, ← List.append_assoc]
      exact h5
    rw [unhide HW0] at H5 H6 H7
    clear hown hrow hgv ha hnone hspot
    go_enter Tryz.func118, Tryz.ntmps118
    go_wp2_with (first
      | (at_make; refine wpList_make_row _ rfl (.tmp 17) (.tmp 17) 113 rfl 73 i6 (.int .u64 0) Tryz.underlying113 hi6 z60 z61 rfl .i64 .i64 0 rfl rfl (by rw [z62]; omega) (by omega) ?_)
      | fail)
    refine wp_loop_rounds 1 ?_
    rw [rounds_succ]
    have bl := below_alloc (Below.refl _ w) (.cells (madeCells #[.int .u64 0] 0) 73)
    have H5w := hide (unhide H5 _ bl)
    have H6b := hide (fun W v' hW h1 => unhide H6 W v' 0 hW h1)
    have HGB := hide (Grew.of_below bl v)
    have HNB : Hid (∀ W v8, Grew (w.alloc (.cells (madeCells #[.int .u64 0] 0) 73)) W v v8 → v8.ownBlock ≠ some w.heap.size) := fun W v8 h2 e => by
      rcases h2.2 with h3 | ⟨g, h3, h4⟩
      · rw [e] at h3
        have := unhide HGV _ h3.symm
        omega
      · rw [e] at h3
        injection h3 with h3
        simp at h4
        omega
    clear bl H5 H6
    go_wp2_with (first
      | (go_at_call_of 112 v; refine (unhide H5w).mono ?_; rintro e w2 ⟨v2, rfl, g1, g2⟩; replace g1 := hide g1; replace g2 := hide g2; have hb2 : base ≤ w2.heap.size := (by have := (unhide g2).1.size; simp at this; omega))
      | (go_at_call 112; refine (unhide H6b _ _ hb2 (unhide g1)).mono ?_; rintro e w3 ⟨v3, rfl, g3, g4⟩; replace g3 := hide g3; replace g4 := hide g4)
      | (go_at_call 139; refine (unhide H7 _ _ (unhide g3) ((unhide HGB).trans ((unhide g2).trans (unhide g4))) (.inl rfl) (unhide HNB _ _ ((unhide g2).trans (unhide g4)))).mono ?_; rintro e w4 ⟨v4, rfl, h5, h6⟩))
    go_ret
    exact ⟨_, rfl, h5, h6⟩
  | cons x0 ys =>
    have HMIN := hide (vmin_any aa ca x0 ys w (by rw [← hxs]; omega) (by rw [← hxs]; exact hrow))
    rw [← hxs] at HMIN ⊢
    have HLS : Hid ((minFrom x0 ys).n = ls) := by show _ = _; rw [unhide hls, hxs]; rfl
    rw [Val.open_] at HMIN
    rw [unhide HLS] at HMIN
    have h0 : (0 : Int) < (xs.length : Int) := by rw [hxs, List.length_cons]; omega
    generalize (minFrom x0 ys).k = mk at *
    generalize (minFrom x0 ys).s = ms at *
    clear hxs HLS hown hrow hgv ha hnone hspot
    have hfd : ∀ W : World, (Instr.field 59 (.agg #[.int .i64 mk, .int .i64 ls, .string ms]) 1).run Tryz.prog W = .ok (.int .i64 ls) W := fun _ => by kernel_rfl
    go_enter Tryz.func118, Tryz.ntmps118
    go_wp2_with (first
      | (go_at_call 146; refine (unhide HMIN).mono ?_; rintro e w1 ⟨rfl, hb1⟩; replace hb1 := hide hb1)
      | (at_make; refine wpList_make_row _ rfl (.tmp 17) (.tmp 17) 113 rfl 73 i6 (.int .u64 0) Tryz.underlying113 hi6 z60 z61 rfl .i64 .i64 xs.length rfl rfl (by rw [z62]; omega) (by omega) ?_)
      | fail)
    have HR1 := hide ((unhide HROW).later (unhide hb1))
    have hsz1 := (unhide hb1).size
    go_loopw [7, 21] (fun s7 s wr => ∃ k : Nat, k ≤ xs.length ∧ s = .int .i64 (k : Int) ∧ s7 = .int .i64 (widL ls (xs.take k) : Nat) ∧ wr.rowIs w1.heap.size 73 xs.length (numF ns k) ∧ Below w1.heap.size w1 wr) (fun _ s _ => xs.length - (intOf s).toNat)
    case atStart => exact ⟨0, Nat.zero_le _, rfl, rfl, (World.rowIs_made w1 (.int .u64 0) xs.length 73).congr fun j hj => by simp [numF], below_alloc (Below.refl _ _) _⟩
    case round =>
      obtain ⟨k, hk, rfl, rfl, hr, hb⟩ := hrel
      by_cases h8 : k < xs.length
      · have h9 : (k : Int) < (xs.length : Int) := by omega
        obtain ⟨x, hx⟩ : ∃ x, xs[k]? = some x := ⟨_, List.getElem?_eq_getElem h8⟩
        rcases (unhide HR1).later hb with e | ⟨rb, ro, rfl, hc⟩
        · rw [e] at hx; cases hx
        obtain ⟨c0, c1, c2⟩ := hc k x hx
        have hnk : ns[k]? = some (offN ls x) := by rw [unhide hns]; simp [hx]
        have HM := hide (numF_next hnk)
        have hw1 := offN_wrap ls x
        have HLT := offN_lt ls x
        have HWN := hide (widL_next (least := ls) hx)
        have hwl := widL_le ls (xs.take k)
        have hwl2 : bl (offN ls x) ≤ 64 := bl_le (by simpa using HLT)
        have HL := hide (fun W => len64_any (offN ls x) W HLT)
        generalize offN ls x = pp at *
        obtain ⟨WN, hWN⟩ : ∃ WN, Hid (WN = widL ls (xs.take (k + 1))) := ⟨_, rfl⟩
        rw [← unhide hWN] at HWN
        generalize widL ls (xs.take k) = wd at *
        generalize bl pp = bb at *
        have emax : (if wd < bb then (bb : Int) else (wd : Int)) = (WN : Int) := by rw [unhide HWN]; split <;> omega
        have HR1r := hide hr
        have HB1r := hide hb
        have hcw := hr.cell h8
        have hfw := hr.frozen k
        have HB2 := hide (below_alloc hb (.cells #[.int .i64 x.k, .int .i64 x.n, .string x.s] 59))
        have hszr := hb.size
        have hltr := hr.lt
        clear hc hx hr hb hnk
        go_wp2_with (go_at_call 147; refine (unhide HL _).mono ?_; rintro e w9 ⟨rfl, rfl⟩)
        go_roundw
        case rel =>
          refine ⟨k + 1, by omega, by go_num, ?_, (((unhide HR1r).set k (.int .u64 (pp : Int))).alloc _).congr fun j hj => ?_, below_alloc ((unhide HB1r).setCell (p := ⟨w1.heap.size, k, none⟩) (Nat.le_refl _) _) _⟩
          · rw [← unhide hWN, unhide HWN]
            congr 1
            omega
          · rw [unhide HM j]
        case measure => first | (simp [intOf]; omega) | (simp only [intOf]; omega)
      · have h9 : ¬ (k : Int) < (xs.length : Int) := by omega
        have hk8 : k = xs.length := by omega
        rw [hk8, ← unhide HNL] at hr
        rw [hk8, List.take_length]
        have hlis := numF_lis hr
        have hbw := below_step (unhide hb1) hb
        have hltr := hr.lt
        have HL1 : Hid (∀ w' v', Grew wr w' v v' → LisAt w' (some ⟨w1.heap.size, 0, none⟩) (ns.map fun n : Nat => Value.int .u64 (n : Int)) ∧ v'.ownBlock ≠ some w1.heap.size) := fun w' v' h2 => by
          refine ⟨hlis.grew h2 (fun ad e => ?_), fun e => ?_⟩
          · injection e with e
            subst e
            intro h3
            have := unhide HGV _ h3
            simp at this
            omega
          · rcases h2.2 with h3 | ⟨g, h3, h4⟩
            · rw [e] at h3
              have := unhide HGV _ h3.symm
              omega
            · rw [e] at h3
              injection h3 with h3
              omega
        have H5w := hide (unhide H5 wr hbw)
        have hwl := widL_le ls xs
        have HD7 : Hid (∀ n ∈ ns, n < 2 ^ widL ls xs) := fun n hn => by
          rw [unhide hns] at hn
          obtain ⟨x, hx, rfl⟩ := List.mem_map.1 hn
          exact widL_ge hx
        obtain ⟨RR, hRR⟩ : ∃ RR, Hid (RR = offsB ls xs) := ⟨_, rfl⟩
        have HOF : Hid (RR = (beL (IntKind.u64.wrap ls) 8 8 ++ beL (widL ls xs : Int) 1 1) ++ leB (total (widL ls xs) ns) (bytesN xs.length (widL ls xs))) := by show _ = _; rw [unhide hRR, offsB, unhide hns]
        generalize widL ls xs = D at *
        have H7 : Hid (∀ W v8, OwnB W base v8 (zs ++ (beL (IntKind.u64.wrap ls) 8 8 ++ beL (D : Int) 1 1)) → Grew wr W v v8 → Calls Tryz.prog 139 #[v8, .slice (some ⟨w1.heap.size, 0, none⟩) xs.length xs.length, .int .i64 (D : Int)] W fun e w' => ∃ v3, e = .returned v3 ∧ OwnB w' base v3 (zs ++ RR) ∧ Grew w w' v v3) := fun W v8 o1 o2 => by
          obtain ⟨l1, l2⟩ := unhide HL1 W v8 o2
          have := apbits_any base _ (some ⟨w1.heap.size, 0, none⟩) xs.length ns D v8 W o1 (by rw [List.length_append, List.length_append, beL_len, beL_len]; omega) (by rw [unhide HNL]; omega) hwl (unhide HD7) (by have := o2.1.size; have := hbw.size; omega) l1 (fun ad e => by injection e with e; subst e; exact l2)
          rw [unhide HNL] at this
          refine this.mono fun e w' ⟨v3, he, h5, h6⟩ => ⟨v3, he, ?_, ((Grew.of_below hbw v).trans o2).trans h6⟩
          rw [unhide HOF, ← List.append_assoc]
          exact h5
        have hD4 : (D : Int) ≤ 64 := by omega
        have hbs : base ≤ wr.heap.size := by have := hbw.size; omega
        have H6b := hide (fun W v' hW h1 => unhide H6 W v' D hW h1)
        clear hr hb hlis hk8 hwl H6 H5
        go_wp2_with (first
          | (go_at_call_of 112 v; refine (unhide H5w).mono ?_; rintro e w2 ⟨v2, rfl, g1, g2⟩; replace g1 := hide g1; replace g2 := hide g2; have hb2 : base ≤ w2.heap.size := (by have := (unhide g2).1.size; omega))
          | (go_at_call 112; refine (unhide H6b _ _ hb2 (unhide g1)).mono ?_; rintro e w3 ⟨v3, rfl, g3, g4⟩; replace g3 := hide g3; replace g4 := hide g4)
          | (go_at_call 139; refine (unhide H7 _ _ (unhide g3) ((unhide g2).trans (unhide g4))).mono ?_; rintro e w4 ⟨v4, rfl, h5, h6⟩))
        go_ret
        exact ⟨_, rfl, by rw [← unhide hRR]; exact h5, h6⟩
end Go.Proofs.YthbfomcmjjnikaaGreat
set_option linter.unusedSimpArgs false
set_option linter.unusedVariables false
namespace Go.Proofs.YthbfomcmjjnikaaGreat
open Go.RowKit Go.Sort

theorem own_mono {w : World} {b b' e s n : Nat} {v : Value} {xs : List Value} (h : w.ownsRow b e s v n xs) (hb : b' ≤ b) : w.ownsRow b' e s v n xs := by
  refine ⟨h.1, ?_⟩
  rcases h.2 with h1 | ⟨g, cap, cur, e1, h2, rest⟩
  · exact .inl h1
  · exact .inr ⟨g, cap, cur, e1, Nat.le_trans hb h2, rest⟩
/-- What stands ahead of the values. -/
def headB (sch kd : Nat) (xs : List Val) : List Int := ((beL (sch : Int) 1 1 ++ beL (kd : Int) 1 1) ++ beL (xs.length : Int) 4 4) ++ nullsL xs
/-- The values' bytes by a scheme. -/
def BodyB (sch : Nat) (ys : List Val) (b : List Int) : Prop :=
  (sch = 1 ∧ b = plains ys) ∨ (sch = 2 ∧ b = beL (runsN ys.length ys : Int) 4 4 ++ runsB ys.length ys) ∨ (sch = 3 ∧ ∃ W, WordsOf ys W ∧ b = wordsB W ys) ∨ (sch = 4 ∧ b = offsB (leastI ys) ys)
/-- The bytes that are written so far; the values stand as they did. -/
def St (w : World) (b0 : Nat) (vv : Value) (xs : List Val) (W : World) (v : Value) (zs : List Int) : Prop := OwnB W w.heap.size v zs ∧ Below w.heap.size w W ∧ OwnV W b0 vv xs
theorem St.grew {w : World} {b0 : Nat} {vv : Value} {xs : List Val} {W W' : World} {v v' : Value} {zs zs' : List Int} (h : St w b0 vv xs W v zs) (hO : OwnB W' w.heap.size v' zs') (hg : Grew W W' v v') : St w b0 vv xs W' v' zs' :=
  ⟨hO, h.2.1.trans (hg.below h.2.1.size fun g e => (ownB_lt h.1 e).1), h.2.2.grew hg (ownB_ownV_ne h.1 h.2.2)⟩
theorem St.num {w : World} {b0 : Nat} {vv : Value} {xs : List Val} {W : World} {v : Value} {zs : List Int} (h : St w b0 vv xs W v zs) (U : Int) (n : Nat) (hn : n ≤ 8) (hz : zs.length ≤ 1000) :
    Calls Tryz.prog 112 #[v, .int .u64 U, .int .i64 n] W fun e w' => ∃ v', e = .returned v' ∧ St w b0 vv xs w' v' (zs ++ beL U n n) :=
  (appnum_any w.heap.size zs U n v W hn h.1 (by omega) h.2.1.size).mono fun e w' ⟨v', he, h1, h2⟩ => ⟨v', he, h.grew h1 h2⟩
theorem nulls_len (xs : List Val) (h : xs.length ≤ 4096) : (nullsL xs).length ≤ 520 := by
  unfold nullsL
  split
  · rw [List.length_append, beL_len, leB_len]
    unfold bytesN
    omega
  · rw [beL_len]; omega
theorem nulls_st {w : World} {b0 : Nat} {aa : Option Addr} {ca : Nat} {xs : List Val} {W : World} {v : Value} {zs : List Int} (h : St w b0 (.slice aa xs.length ca) xs W v zs) (hl : xs.length ≤ 4096) (hz : zs.length ≤ 1000) :
    Calls Tryz.prog 113 #[v, .slice aa xs.length ca] W fun e w' => ∃ v', e = .returned v' ∧ St w b0 (.slice aa xs.length ca) xs w' v' (zs ++ nullsL xs) := by
  obtain ⟨a1, c1, e1, _, _, hr⟩ := ownV_slice h.2.2
  injection e1 with e1 _ e2
  subst e1 e2
  exact (apnulls_any w.heap.size zs aa ca xs v W h.1 (by omega) hl h.2.1.size hr).mono fun e w' ⟨v', he, h1, h2⟩ => ⟨v', he, h.grew h1 h2⟩
theorem clone_st {w : World} {b0 : Nat} {aa : Option Addr} {ca : Nat} {xs : List Val} {W : World} {v : Value} {zs : List Int} (h : St w b0 (.slice aa xs.length ca) xs W v zs) (hl : xs.length ≤ 4096) :
    Calls Tryz.prog 115 #[.slice aa xs.length ca] W fun e w' => ∃ v', e = .returned v' ∧ OwnB w' w.heap.size v zs ∧ Below w.heap.size w w' ∧ OwnV w' w.heap.size v' xs := by
  obtain ⟨a1, c1, e1, hsp, hn, hr⟩ := ownV_slice h.2.2
  injection e1 with e1 _ e2
  subst e1 e2
  exact (vclone_any aa ca xs W (by omega) hsp hr hn).mono fun e w' ⟨v', he, h1, h2⟩ => ⟨v', he, own_later h.1 h2, below_step h.2.1 h2, own_mono h1 h.2.1.size⟩
theorem delete_st {w : World} {v9 : Value} {xs : List Val} {W : World} {v : Value} {zs : List Int} (h : OwnB W w.heap.size v zs ∧ Below w.heap.size w W ∧ OwnV W w.heap.size v9 xs) (hl : xs.length ≤ 4096) :
    Calls Tryz.prog 114 #[v9, .func (.func 102) #[] #[]] W fun e w' => ∃ v', e = .returned v' ∧ OwnB w' w.heap.size v zs ∧ Below w.heap.size w w' ∧ OwnV w' w.heap.size v' (standL xs) :=
  (vdelete_any w.heap.size xs v9 W (by omega) h.2.2).mono fun e w' ⟨v', he, h1, h2⟩ => ⟨v', he, h.1.grew h2 (fun g e1 e2 => ownB_ownV_ne h.1 h.2.2 g e2 e1), h.2.1.trans (h2.below h.2.1.size fun g e => (World.ownsRow.lt h.2.2 g e).1), h1⟩
theorem done_below {w W w' : World} {v v' : Value} {zs : List Int} (h : OwnB W w.heap.size v zs) (hb : Below w.heap.size w W) (hg : Grew W w' v v') : Below w.heap.size w w' := hb.trans (hg.below hb.size fun g e => (ownB_lt h e).1)

theorem body_st (sch : Nat) {w : World} {v10 : Value} {ys : List Val} {W : World} {v : Value} {zs : List Int} (h : OwnB W w.heap.size v zs ∧ Below w.heap.size w W ∧ OwnV W w.heap.size v10 ys) (hl : ys.length ≤ 4096) (hs : ∀ x ∈ ys, x.s.size ≤ 1000) (hz : zs.length ≤ 1000000) (f : Nat) (hf : (sch = 1 ∧ f = 119) ∨ (sch = 2 ∧ f = 116) ∨ (sch = 3 ∧ f = 117) ∨ (sch = 4 ∧ f = 118)) :
    Calls Tryz.prog f #[v, v10] W fun e w' => ∃ v' b, e = .returned v' ∧ BodyB sch ys b ∧ OwnB w' w.heap.size v' (zs ++ b) ∧ Below w.heap.size w w' := by
  obtain ⟨h1, h2, h3⟩ := h
  have hsep := ownB_ownV_ne h1 h3
  obtain ⟨aa, ca, rfl, hsp, hn, hr⟩ := ownV_slice h3
  have hca : ys.length ≤ ca := by
    rcases h3.2 with ⟨e, _⟩ | ⟨g, cap, cur, e, _, _, hc, _⟩
    · injection e with _ e1 e2; omega
    · injection e with _ e1 e2; omega
  rcases hf with ⟨rfl, rfl⟩ | ⟨rfl, rfl⟩ | ⟨rfl, rfl⟩ | ⟨rfl, rfl⟩
  · exact (applains_any w.heap.size zs aa ca ys v W h1 (by omega) hs h2.size hr (fun ad e => hsep ad.block (by rw [e]; rfl))).mono fun e w' ⟨v', he, q1, q2⟩ => ⟨v', _, he, .inl ⟨rfl, rfl⟩, q1, done_below h1 h2 q2⟩
  · exact (runs_loop w.heap.size zs aa ca ys v W h1 hl hca hz hs h2.size hr (fun ad e => hsep ad.block (by rw [e]; rfl))).mono fun e w' ⟨v', he, q1, q2⟩ => ⟨v', _, he, .inr (.inl ⟨rfl, rfl⟩), q1, done_below h1 h2 q2⟩
  · exact (apwords_any w.heap.size w.heap.size zs ys _ v W h1 hz hl hs h2.size h3).mono fun e w' ⟨Wd, v', hW, he, q1, q2⟩ => ⟨v', _, he, .inr (.inr (.inl ⟨rfl, Wd, hW, rfl⟩)), q1, done_below h1 h2 q2⟩
  · exact (apoffs_any w.heap.size w.heap.size zs ys _ v W h1 hz hl h2.size h3).mono fun e w' ⟨v', he, q1, q2⟩ => ⟨v', _, he, .inr (.inr (.inr ⟨rfl, rfl⟩)), q1, done_below h1 h2 q2⟩

set_option maxHeartbeats 8000000 in
set_option maxRecDepth 100000 in
theorem written_any (sch kd : Nat) (b0 : Nat) (xs : List Val) (vv : Value) (w : World) (hsch : sch = 1 ∨ sch = 2 ∨ sch = 3 ∨ sch = 4) (hkd : kd ≤ 2) (hl : xs.length ≤ 4096) (hs : ∀ x ∈ xs, x.s.size ≤ 1000) (ha : OwnV w b0 vv xs) :
    Calls Tryz.prog 99 #[.int .i64 (kd : Int), vv, .int .i64 (sch : Int)] w fun e w' => ∃ v' b, e = .returned v' ∧ Hid (BodyB sch (standL xs) b) ∧ Hid (OwnB w' w.heap.size v' (headB sch kd xs ++ b)) ∧ Below w.heap.size w w' := by
  obtain ⟨aa, ca, rfl, _, _, _⟩ := ownV_slice ha
  have S0 : Hid (St w b0 (.slice aa xs.length ca) xs w (.slice none 0 0) []) := ⟨World.ownsRow_nil _ _ _ _, Below.refl _ _, ha⟩
  have hkd2 : (kd : Int) ≤ 2 := by omega
  have hl4 : (xs.length : Int) ≤ 4096 := by omega
  have HL := hide hl
  have HSL : Hid ((standL xs).length ≤ 4096) := Nat.le_trans (stand_len xs) hl
  have HS2 : Hid (∀ x ∈ standL xs, x.s.size ≤ 1000) := fun x hx => hs x (List.mem_filter.1 hx).1
  have HZ : Hid ((headB sch kd xs).length ≤ 1000000) := by
    show _ ≤ _
    have := nulls_len xs hl
    simp only [headB, List.length_append, beL_len]
    omega
  have HB : Hid (∀ W v v10 f, (OwnB W w.heap.size v (headB sch kd xs) ∧ Below w.heap.size w W ∧ OwnV W w.heap.size v10 (standL xs)) → ((sch = 1 ∧ f = 119) ∨ (sch = 2 ∧ f = 116) ∨ (sch = 3 ∧ f = 117) ∨ (sch = 4 ∧ f = 118)) → Calls Tryz.prog f #[v, v10] W fun e w' => ∃ v' b, e = .returned v' ∧ Hid (BodyB sch (standL xs) b) ∧ Hid (OwnB w' w.heap.size v' (headB sch kd xs ++ b)) ∧ Below w.heap.size w w') := fun W v v10 f h hf => body_st sch h (unhide HSL) (unhide HS2) (unhide HZ) f hf
  have H1 : Hid (Calls Tryz.prog 112 #[.slice none 0 0, .int .u64 (sch : Int), .int .i64 1] w fun e w' => ∃ v', e = .returned v' ∧ Hid (St w b0 (.slice aa xs.length ca) xs w' v' (beL (sch : Int) 1 1))) := (unhide S0).num (sch : Int) 1 (by omega) (by simp)
  have H2 : Hid (∀ W v, Hid (St w b0 (.slice aa xs.length ca) xs W v (beL (sch : Int) 1 1)) → Calls Tryz.prog 112 #[v, .int .u64 (kd : Int), .int .i64 1] W fun e w' => ∃ v', e = .returned v' ∧ Hid (St w b0 (.slice aa xs.length ca) xs w' v' (beL (sch : Int) 1 1 ++ beL (kd : Int) 1 1))) := fun W v h => St.num h (kd : Int) 1 (by omega) (by rw [beL_len]; omega)
  have H3 : Hid (∀ W v, Hid (St w b0 (.slice aa xs.length ca) xs W v (beL (sch : Int) 1 1 ++ beL (kd : Int) 1 1)) → Calls Tryz.prog 112 #[v, .int .u64 (xs.length : Int), .int .i64 4] W fun e w' => ∃ v', e = .returned v' ∧ Hid (St w b0 (.slice aa xs.length ca) xs w' v' ((beL (sch : Int) 1 1 ++ beL (kd : Int) 1 1) ++ beL (xs.length : Int) 4 4))) := fun W v h => St.num h (xs.length : Int) 4 (by omega) (by rw [List.length_append, beL_len, beL_len]; omega)
  have H4 : Hid (∀ W v, Hid (St w b0 (.slice aa xs.length ca) xs W v ((beL (sch : Int) 1 1 ++ beL (kd : Int) 1 1) ++ beL (xs.length : Int) 4 4)) → Calls Tryz.prog 113 #[v, .slice aa xs.length ca] W fun e w' => ∃ v', e = .returned v' ∧ Hid (St w b0 (.slice aa xs.length ca) xs w' v' (headB sch kd xs))) := fun W v h => nulls_st h (unhide HL) (by rw [List.length_append, List.length_append, beL_len, beL_len, beL_len]; omega)
  have H5 : Hid (∀ W v, Hid (St w b0 (.slice aa xs.length ca) xs W v (headB sch kd xs)) → Calls Tryz.prog 115 #[.slice aa xs.length ca] W fun e w' => ∃ v', e = .returned v' ∧ Hid (OwnB w' w.heap.size v (headB sch kd xs) ∧ Below w.heap.size w w' ∧ OwnV w' w.heap.size v' xs)) := fun W v h => clone_st h (unhide HL)
  have H6 : Hid (∀ W v v9, Hid (OwnB W w.heap.size v (headB sch kd xs) ∧ Below w.heap.size w W ∧ OwnV W w.heap.size v9 xs) → Calls Tryz.prog 114 #[v9, .func (.func 102) #[] #[]] W fun e w' => ∃ v', e = .returned v' ∧ Hid (OwnB w' w.heap.size v (headB sch kd xs) ∧ Below w.heap.size w w' ∧ OwnV w' w.heap.size v' (standL xs))) := fun W v v9 h => delete_st h (unhide HL)
  clear ha hs hl
  generalize headB sch kd xs = HD at *
  rcases hsch with rfl | rfl | rfl | rfl
  all_goals
    go_enter Tryz.func99, Tryz.ntmps99
    go_wp2_with (first
      | (go_at_call_of 112 (Value.slice none 0 0); refine (unhide H1).mono ?_; rintro e w1 ⟨v1, rfl, q1⟩)
      | (go_at_call_of 112 (Value.int IntKind.u64 (kd : Int)); refine (unhide H2 _ _ q1).mono ?_; rintro e w2 ⟨v2, rfl, q2⟩)
      | (go_at_call_of 112 (Value.int IntKind.i64 4); refine (unhide H3 _ _ q2).mono ?_; rintro e w3 ⟨v3, rfl, q3⟩)
      | (go_at_call 113; refine (unhide H4 _ _ q3).mono ?_; rintro e w4 ⟨v4, rfl, q4⟩)
      | (go_at_call 115; refine (unhide H5 _ _ q4).mono ?_; rintro e w5 ⟨v5, rfl, q5⟩)
      | (go_at_call 114; refine (unhide H6 _ _ _ q5).mono ?_; rintro e w6 ⟨v6, rfl, q6⟩)
      | (go_at_call 116; refine (unhide HB _ _ _ 116 q6 (by simp)).mono ?_; rintro e w7 ⟨v7, b, rfl, g1, g2, g3⟩)
      | (go_at_call 117; refine (unhide HB _ _ _ 117 q6 (by simp)).mono ?_; rintro e w7 ⟨v7, b, rfl, g1, g2, g3⟩)
      | (go_at_call 118; refine (unhide HB _ _ _ 118 q6 (by simp)).mono ?_; rintro e w7 ⟨v7, b, rfl, g1, g2, g3⟩)
      | (go_at_call 119; refine (unhide HB _ _ _ 119 q6 (by simp)).mono ?_; rintro e w7 ⟨v7, b, rfl, g1, g2, g3⟩))
    go_ret
    exact ⟨_, _, rfl, g1, g2, g3⟩
end Go.Proofs.YthbfomcmjjnikaaGreat

import Derived.Test.YtbdkpkpncmagoaaGreatPackL
set_option linter.unusedSimpArgs false
set_option linter.unusedVariables false
namespace Go.Proofs.YtbdkpkpncmagoaaGreat
open Go.RowKit Go.Sort

def marksN (xs : List Val) : List Nat := xs.map fun x => if nullB x then 1 else 0
/-- Whether there are nulls, and where. -/
def nullsL (xs : List Val) : List Int := if xs.any nullB then beL 1 1 1 ++ leB (total 1 (marksN xs)) (bytesN xs.length 1) else beL 0 1 1
def markF (xs : List Val) (k : Nat) (j : Nat) : Value := .int .u64 (if j < k then (((marksN xs)[j]?).getD 0 : Nat) else 0 : Int)

set_option maxHeartbeats 4000000 in
set_option maxRecDepth 100000 in
theorem apnulls_any (base : Nat) (zs : List Int) (aa : Option Addr) (ca : Nat) (xs : List Val) (v : Value) (w : World) (hown : OwnB w base v zs) (hlen : zs.length ≤ 1000000) (hl : xs.length ≤ 4096) (hbase : base ≤ w.heap.size) (ha : RowAt w aa xs) :
    Calls Tryz.prog 78 #[v, .slice aa xs.length ca] w fun e w' => ∃ v', e = .returned v' ∧ OwnB w' base v' (zs ++ nullsL xs) ∧ Grew w w' v v' := by
  obtain ⟨i6, hi6, z60, z61, z62⟩ := info_parts Tryz.info86
  have HC := hide (vcontains_any aa ca xs w (by omega) ha)
  have HOWN := hide hown
  have HA := hide ha
  have hgv : ∀ g, v.ownBlock = some g → g < w.heap.size := fun g hg => (ownB_lt hown hg).2
  have HGV := hide hgv
  clear hown ha hgv
  cases hZ : xs.any nullB
  · have HV : Hid (nullsL xs = beL 0 1 1) := by show _ = _; rw [nullsL, hZ]; rfl
    rw [hZ] at HC
    clear hZ
    have H1 : Hid (∀ W, Below w.heap.size w W → Calls Tryz.prog 77 #[v, .int .u64 0, .int .i64 1] W fun e w' => ∃ v', e = .returned v' ∧ OwnB w' base v' (zs ++ beL 0 1 1) ∧ Grew w w' v v') := fun W hW => by
      refine (appnum_any base zs 0 1 v W (by omega) (own_later (unhide HOWN) hW) (by omega) (by have := hW.size; omega)).mono fun e w' ⟨v', he, h1, h2⟩ => ⟨v', he, h1, (Grew.of_below hW v).trans h2⟩
    go_enter Tryz.func78, Tryz.ntmps78
    go_wp2_with (first
      | (go_at_call 38; refine (unhide HC).mono ?_; rintro e w1 ⟨rfl, hb1⟩)
      | (go_at_call 77; refine (unhide H1 _ hb1).mono ?_; rintro e w2 ⟨v2, rfl, h2, h3⟩))
    go_ret
    exact ⟨_, rfl, by rw [unhide HV]; exact h2, h3⟩
  · have HV : Hid (nullsL xs = beL 1 1 1 ++ leB (total 1 (marksN xs)) (bytesN xs.length 1)) := by show _ = _; rw [nullsL, hZ]; rfl
    rw [hZ] at HC
    clear hZ
    go_enter Tryz.func78, Tryz.ntmps78
    go_wp2_with (first
      | (go_at_call 38; refine (unhide HC).mono ?_; rintro e w1 ⟨rfl, hb1⟩)
      | (at_make; refine wpList_make_row _ rfl (.tmp 14) (.tmp 14) 109 rfl 86 i6 (.int .u64 0) Tryz.underlying109 hi6 z60 z61 rfl .i64 .i64 xs.length rfl rfl (by rw [z62]; omega) (by omega) ?_)
      | fail)
    have HB1 := hide hb1
    have hsz1 := hb1.size
    clear hb1
    go_loopw [18] (fun s wr => ∃ k : Nat, k ≤ xs.length ∧ s = .int .i64 (k : Int) ∧ wr.rowIs w1.heap.size 86 xs.length (markF xs k) ∧ Below w1.heap.size w1 wr) (fun s _ => xs.length - (intOf s).toNat)
    case atStart => exact ⟨0, Nat.zero_le _, rfl, (World.rowIs_made w1 (.int .u64 0) xs.length 86).congr fun j hj => by simp [markF], below_alloc (Below.refl _ _) _⟩
    case round =>
      obtain ⟨k, hk, rfl, hr, hb⟩ := hrel
      by_cases h8 : k < xs.length
      · have h9 : (k : Int) < (xs.length : Int) := by omega
        obtain ⟨x, hx⟩ : ∃ x, xs[k]? = some x := ⟨_, List.getElem?_eq_getElem h8⟩
        have hbw := below_step (unhide HB1) hb
        rcases (unhide HA).later hbw with e | ⟨rb, ro, rfl, hc⟩
        · rw [e] at hx; cases hx
        obtain ⟨c0, c1, c2⟩ := hc k x hx
        have bl := below_alloc (Below.refl _ wr) (.cells #[.int .i64 x.k, .int .i64 x.n, .string x.s] 42)
        have HP := hide (fun W => pnull_any x W)
        have hr2 := hr.alloc (.cells #[.int .i64 x.k, .int .i64 x.n, .string x.s] 42)
        have HR2 := hide hr2
        have HB2 := hide (below_step hb bl)
        have hszr := hb.size
        have hltr := hr.lt
        have HMK : Hid (∀ b : Nat, (marksN xs)[k]? = some b → ∀ j, markF xs (k + 1) j = if j = k then .int .u64 (b : Int) else markF xs k j) := fun b hbb j => by
          unfold markF
          by_cases hj : j = k
          · subst hj; simp [hbb]
          · rw [if_neg hj]
            by_cases hlt : j < k
            · rw [if_pos hlt, if_pos (by omega)]
            · rw [if_neg hlt, if_neg (by omega)]
        have hmk : (marksN xs)[k]? = some (if nullB x then 1 else 0) := by simp [marksN, hx]
        clear hc hx hr hb hr2 hbw bl
        rcases Bool.eq_false_or_eq_true (nullB x) with e1 | e1
        · have e2 : (x.k == 0) = true := e1
          rw [e2] at HP
          rw [e1] at hmk
          have HM := hide (unhide HMK 1 (by simpa using hmk))
          clear hmk
          go_wp2_with (go_at_call 72; refine (unhide HP _).mono ?_; rintro e w3 ⟨rfl, hb3⟩; have hr3 := rowIs_later (unhide HR2) hb3; have cm := hr3.cell h8; have fm := hr3.frozen k; replace hr3 := hide hr3; have HB3 := hide (below_step (unhide HB2) hb3); unfold markF at cm)
          go_roundw
          case rel =>
            refine ⟨k + 1, by omega, by go_num, ((unhide hr3).set k (.int .u64 1)).congr fun j hj => ?_, (unhide HB3).setCell (p := ⟨w1.heap.size, k, none⟩) (Nat.le_refl _) _⟩
            rw [unhide HM j]; rfl
          case measure => first | (simp [intOf]; omega) | (simp only [intOf]; omega)
        · have e2 : (x.k == 0) = false := e1
          rw [e2] at HP
          rw [e1] at hmk
          have HM := hide (unhide HMK 0 (by simpa using hmk))
          clear hmk
          go_wp2_with (go_at_call 72; refine (unhide HP _).mono ?_; rintro e w3 ⟨rfl, hb3⟩; have hr3 := hide (rowIs_later (unhide HR2) hb3); have HB3 := hide (below_step (unhide HB2) hb3))
          go_roundw
          case rel =>
            refine ⟨k + 1, by omega, by go_num, (unhide hr3).congr fun j hj => ?_, unhide HB3⟩
            rw [unhide HM j]
            by_cases h : j = k
            · subst h; rw [if_pos rfl]; simp [markF]
            · rw [if_neg h]
          case measure => first | (simp [intOf]; omega) | (simp only [intOf]; omega)
      · have h9 : ¬ (k : Int) < (xs.length : Int) := by omega
        have hk8 : k = xs.length := by omega
        rw [hk8] at hr
        have hml : (marksN xs).length = xs.length := by simp [marksN]
        have hlis : LisAt wr (some ⟨w1.heap.size, 0, none⟩) ((marksN xs).map fun n : Nat => Value.int .u64 (n : Int)) := by
          refine lis_of_row hr (by simp [marksN]) fun i y hi hy => ?_
          rw [List.getElem?_map] at hy
          obtain ⟨m, hm, rfl⟩ := Option.map_eq_some_iff.1 hy
          simp [markF, hi, hm]
        have hbw := below_step (unhide HB1) hb
        have hltr := hr.lt
        have H1 : Hid (Calls Tryz.prog 77 #[v, .int .u64 1, .int .i64 1] wr fun e w' => ∃ v', e = .returned v' ∧ (OwnB w' base v' (zs ++ beL 1 1 1) ∧ Grew w w' v v' ∧ LisAt w' (some ⟨w1.heap.size, 0, none⟩) ((marksN xs).map fun n : Nat => Value.int .u64 (n : Int)) ∧ v'.ownBlock ≠ some w1.heap.size)) := by
          refine (appnum_any base zs 1 1 v wr (by omega) (own_later (unhide HOWN) hbw) (by omega) (by have := hbw.size; omega)).mono fun e w' ⟨v', he, h1, h2⟩ => ⟨v', he, h1, (Grew.of_below hbw v).trans h2, hlis.grew h2 (fun ad e => ?_), fun e => ?_⟩
          · injection e with e
            subst e
            intro h3
            have := unhide HGV _ h3
            simp at this
            omega
          · rcases h2.2 with h3 | ⟨g, h3, h4⟩
            · rw [e] at h3
              have := unhide HGV _ h3.symm
              omega
            · rw [e] at h3
              injection h3 with h3
              omega
        have H2 : Hid (∀ W v', (OwnB W base v' (zs ++ beL 1 1 1) ∧ Grew w W v v' ∧ LisAt W (some ⟨w1.heap.size, 0, none⟩) ((marksN xs).map fun n : Nat => Value.int .u64 (n : Int)) ∧ v'.ownBlock ≠ some w1.heap.size) → Calls Tryz.prog 93 #[v', .slice (some ⟨w1.heap.size, 0, none⟩) xs.length xs.length, .int .i64 1] W fun e w' => ∃ v3, e = .returned v3 ∧ OwnB w' base v3 ((zs ++ beL 1 1 1) ++ leB (total 1 (marksN xs)) (bytesN xs.length 1)) ∧ Grew w w' v v3) := fun W v' ⟨h1, h2, h3, h4⟩ => by
          have := apbits_any base (zs ++ beL 1 1 1) (some ⟨w1.heap.size, 0, none⟩) xs.length (marksN xs) 1 v' W h1 (by rw [List.length_append, beL_len]; omega) (by omega) (by omega) (fun n hn => by
            obtain ⟨x, _, rfl⟩ := List.mem_map.1 hn
            split <;> decide) (by have := h2.1.size; omega) h3 (fun ad e => by injection e with e; subst e; exact h4)
          rw [hml] at this
          exact this.mono fun e w' ⟨v3, he, h5, h6⟩ => ⟨v3, he, h5, h2.trans h6⟩
        clear hr hb hlis hbw hk8 hml
        go_wp2_with (first
          | (go_at_call 77; refine (unhide H1).mono ?_; rintro e w2 ⟨v2, rfl, h2⟩; replace h2 := hide h2)
          | (go_at_call 93; refine (unhide H2 _ _ (unhide h2)).mono ?_; rintro e w3 ⟨v3, rfl, h5, h6⟩))
        go_ret
        exact ⟨_, rfl, by rw [unhide HV, ← List.append_assoc]; exact h5, h6⟩
end Go.Proofs.YtbdkpkpncmagoaaGreat

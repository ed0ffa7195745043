import Derived.Test.YtjnggnhgambmkaaGreatRdG
import Derived.Test.YtjnggnhgambmkaaGreatPackP
import Derived.Test.YtjnggnhgambmkaaGreatPackM
import Derived.Test.YtjnggnhgambmkaaGreatPackU
import Derived.Test.YtjnggnhgambmkaaGreatPackF
set_option linter.unusedSimpArgs false
set_option linter.unusedVariables false
namespace Go.Proofs.YtjnggnhgambmkaaGreat
open Go.RowKit Go.Sort Go.Shelf Go.Lib


instance : Inhabited Val := ⟨Val.null⟩
theorem cmpLays64 (blk off size : Nat) (w : World) : CmpLays Tryz.prog 64 #[] c3 3 ordV blk off size w :=
  fun _ _ _ _ x y => (order_up x y _).mono fun _ _ ⟨he, hu⟩ => ⟨he, hu.grown⟩
theorem ltOf_ord : ltOf ordV = ltV := rfl
theorem flatK_c3 (d : Array Val) : (flatK c3 3 d).toList = d.toList.flatMap c3 := by
  refine List.ext_getElem? fun j => ?_
  by_cases hj : j < d.size * 3
  · have hd : j / 3 < d.size := by omega
    have e1 : (d.toList)[j / 3]? = some d[j / 3]! := by rw [Array.getElem?_toList, getElem!_pos d (j / 3) hd]; exact Array.getElem?_eq_getElem hd
    have := flat_at d.toList (j / 3) (j % 3) _ e1 (by omega)
    rw [show j / 3 * 3 + j % 3 = j by omega] at this
    rw [this]
    simp only [flatK, Array.toList_map, List.getElem?_map]
    rw [Array.getElem?_toList, Array.getElem?_range, if_pos hj]
    simp only [Option.map_some]
    have h3 : j % 3 < (c3 d[j / 3]!).length := by simp [c3]; omega
    rw [getElem!_pos (c3 d[j / 3]!) (j % 3) h3, List.getElem?_eq_getElem h3]
  · rw [List.getElem?_eq_none (by simp [flatK]; omega), List.getElem?_eq_none (by rw [flat_len]; simpa using hj)]
theorem own_holdsK {w : World} {base g cap N : Nat} {xs : List Val} (h : OwnV w base (.slice (some ⟨g, 0, none⟩) N cap) xs) : HoldsK c3 3 w g 0 xs.toArray := by
  intro j hj
  have hN := h.len
  subst hN
  rw [size_flatK] at hj
  have hj' : j < xs.length * 3 := by simpa using hj
  have e1 := flatK_c3 xs.toArray
  refine ⟨?_, ?_⟩
  · rw [Nat.zero_add, World.ownsRow.cellAt h j hj']
    simp only [List.toList_toArray] at e1
    rw [← e1, Array.getElem?_toList, Array.getElem?_eq_getElem (by simpa using hj')]
    rw [getElem!_pos _ _ (by simpa using hj')]
    rfl
  · rw [Nat.zero_add]; exact World.ownsRow.frozenAt h j
theorem own_sorted {w : World} {base g cap N n : Nat} {xs : List Val} {d' : Array Val} {os : Array Obj} (h : OwnV w base (.slice (some ⟨g, 0, none⟩) N cap) xs) (hs : d'.size = xs.length) :
    OwnV (sortWorldK c3 3 w g 0 n d' os) base (.slice (some ⟨g, 0, none⟩) N cap) d'.toList ∧ Grew w (sortWorldK c3 3 w g 0 n d' os) (.slice (some ⟨g, 0, none⟩) N cap) (.slice (some ⟨g, 0, none⟩) N cap) := by
  have hN := h.len
  subst hN
  rcases h.2 with ⟨e, _⟩ | ⟨g', cap', cur, e, hb, hh, hnc, hcm, hcs, htake⟩
  · cases e
  injection e with e1 e2 e3
  injection e1 with e1
  injection e1 with e1
  subst e1 e3
  have hlt : g < w.heap.size := (Array.getElem?_eq_some_iff.1 hh).1
  have hs2 : d'.toList.length = xs.length := by simpa using hs
  have hheap : (sortWorldK c3 3 w g 0 n d' os).heap[g]? = some (.cells (putCells id 0 (flatK c3 3 d') cur) 38 (0, 0)) := by
    unfold sortWorldK grow putRowK putRow mapBlock
    simp only [Sort.ahead]
    rw [Array.getElem?_append_left (by simpa using hlt), Array.getElem?_modify, if_pos rfl, hh]
    rfl
  refine ⟨⟨?_, .inr ⟨g, cap, putCells id 0 (flatK c3 3 d') cur, by rw [hs2], hb, hheap, by rw [hs2]; exact hnc, hcm, by simp [putCells, hcs], ?_⟩⟩, ⟨⟨rfl, rfl, rfl, ?_, ?_⟩, .inl rfl⟩⟩
  · rw [flat_len]
  · rw [← flatK_c3, Array.length_toList]
    refine List.ext_getElem? fun j => ?_
    rw [List.getElem?_take]
    by_cases hj : j < d'.size * 3
    · rw [if_pos hj, Array.getElem?_toList, Array.getElem?_toList]
      have hjc : j < cur.size := by rw [hcs]; omega
      simp only [putCells, Array.getElem?_mapIdx, Array.getElem?_eq_getElem hjc, Option.map_some]
      rw [if_pos ⟨Nat.zero_le _, by rw [size_flatK]; omega⟩, Nat.sub_zero, Array.getElem?_eq_getElem (by rw [size_flatK]; exact hj), getElem!_pos _ _ (by rw [size_flatK]; exact hj)]
      rfl
    · rw [if_neg hj, List.getElem?_eq_none (by rw [Array.length_toList, size_flatK]; omega)]
  · unfold sortWorldK grow putRowK putRow mapBlock
    simp [Sort.ahead]
  · intro k hk hne
    have hkg : g ≠ k := fun e => hne (by rw [e]; rfl)
    unfold sortWorldK grow putRowK putRow mapBlock
    simp only [Sort.ahead]
    rw [Array.getElem?_append_left (by simpa using hk), Array.getElem?_modify, if_neg hkg]

theorem vsort_any (base : Nat) (xs : List Val) (v : Value) (w : World) (hl : xs.length ≤ 1048576) (hown : OwnV w base v xs) :
    Calls Tryz.prog 63 #[v, .func (.func 64) #[] #[]] w fun e w' => e = .returned (.tuple #[]) ∧ ∃ ys, OwnV w' base v ys ∧ Grew w w' v v ∧ ys.Perm xs ∧ Rises ys := by
  rcases hown.2 with ⟨rfl, h0⟩ | ⟨g, cap, cur, rfl, rest⟩
  · have hx : xs = [] := List.eq_nil_of_length_eq_zero h0
    subst hx
    have hcon := AnyF.slices_SortFunc_none Tryz.sortL none 0 (.func (.func 64) #[] #[]) w
    change Calls Tryz.prog 63 _ _ _ at hcon
    refine hcon.mono ?_
    rintro e w' ⟨rfl, rfl⟩
    exact ⟨rfl, [], hown, Grew.refl _ _, List.Perm.refl _, List.Pairwise.nil⟩
  · have eg : ∀ args w, (callFunc 64 args).run Tryz.prog w = .ok (.enter 64 args) w := enters_of Tryz.func64 (by kernel_rfl) rfl
    have hcon := AnyQ.slices_SortFunc Tryz.sortL 3 Tryz.isAgg38 Tryz.sizeOf38 c3 (fun _ => rfl) (fun x v hv => c3_one x v hv) ordV swoV 64 #[] g 0 cap xs.toArray w eg (cmpLays64 g 0 _ w) (own_holdsK hown) (World.ownsRow.lt hown g rfl).2 (by simp; omega)
    change Calls Tryz.prog 63 _ _ _ at hcon
    have e1 : xs.toArray.size = xs.length := by simp
    rw [e1] at hcon
    refine hcon.mono ?_
    rintro e w' ⟨rfl, d', n, os, hp, hs, rfl⟩
    obtain ⟨hp1, hp2, hp3⟩ := hp
    have hsz : d'.size = xs.length := by rw [hp1]; simp
    obtain ⟨q1, q2⟩ := own_sorted (n := n) (os := os) hown hsz
    refine ⟨rfl, d'.toList, q1, q2, ?_, ?_⟩
    · have e2 : d'.extract 0 xs.length = d' := by rw [← hsz]; simp
      have e3 : xs.toArray.extract 0 xs.length = xs.toArray := by rw [← e1]; simp
      rw [e2, e3] at hp3
      simpa using hp3
    · refine List.pairwise_iff_getElem.2 fun i j hi hj hij => ?_
      have hi' : i < d'.size := by simpa using hi
      have hj' : j < d'.size := by simpa using hj
      have := hs i j (Nat.zero_le _) hij (by omega)
      rw [getElem!_pos d' i hi', getElem!_pos d' j hj', ltOf_ord] at this
      simp only [ltV, decide_eq_false_iff_not] at this
      have h2 := ord_anti (d'[i]'hi') (d'[j]'hj')
      simp only [Array.getElem_toList]
      omega
end Go.Proofs.YtjnggnhgambmkaaGreat
set_option linter.unusedSimpArgs false
set_option linter.unusedVariables false
namespace Go.Proofs.YtjnggnhgambmkaaGreat
open Go.RowKit Go.Sort

def marksN (xs : List Val) : List Nat := xs.map fun x => if nullB x then 1 else 0
/-- Whether there are nulls, and where. -/
def nullsL (xs : List Val) : List Int := if xs.any nullB then beL 1 1 1 ++ leB (total 1 (marksN xs)) (bytesN xs.length 1) else beL 0 1 1
def markF (xs : List Val) (k : Nat) (j : Nat) : Value := .int .u64 (if j < k then (((marksN xs)[j]?).getD 0 : Nat) else 0 : Int)

set_option maxHeartbeats 4000000 in
set_option maxRecDepth 100000 in
theorem apnulls_any (base : Nat) (zs : List Int) (aa : Option Addr) (ca : Nat) (xs : List Val) (v : Value) (w : World) (hown : OwnB w base v zs) (hlen : zs.length ≤ 1000000) (hl : xs.length ≤ 4096) (hbase : base ≤ w.heap.size) (ha : RowAt w aa xs) :
    Calls Tryz.prog 45 #[v, .slice aa xs.length ca] w fun e w' => ∃ v', e = .returned v' ∧ OwnB w' base v' (zs ++ nullsL xs) ∧ Grew w w' v v' := by
  obtain ⟨i6, hi6, z60, z61, z62⟩ := info_parts Tryz.info87
  have HC := hide (vcontains_any aa ca xs w (by omega) ha)
  have HOWN := hide hown
  have HA := hide ha
  have hgv : ∀ g, v.ownBlock = some g → g < w.heap.size := fun g hg => (ownB_lt hown hg).2
  have HGV := hide hgv
  clear hown ha hgv
  cases hZ : xs.any nullB
  · have HV : Hid (nullsL xs = beL 0 1 1) := by show _ = _; rw [nullsL, hZ]; rfl
    rw [hZ] at HC
    clear hZ
    have H1 : Hid (∀ W, Below w.heap.size w W → Calls Tryz.prog 44 #[v, .int .u64 0, .int .i64 1] W fun e w' => ∃ v', e = .returned v' ∧ OwnB w' base v' (zs ++ beL 0 1 1) ∧ Grew w w' v v') := fun W hW => by
      refine (appnum_any base zs 0 1 v W (by omega) (own_later (unhide HOWN) hW) (by omega) (by have := hW.size; omega)).mono fun e w' ⟨v', he, h1, h2⟩ => ⟨v', he, h1, (Grew.of_below hW v).trans h2⟩
    go_enter Tryz.func45, Tryz.ntmps45
    go_wp2_with (first
      | (go_at_call 58; refine (unhide HC).mono ?_; rintro e w1 ⟨rfl, hb1⟩)
      | (go_at_call 44; refine (unhide H1 _ hb1).mono ?_; rintro e w2 ⟨v2, rfl, h2, h3⟩))
    go_ret
    exact ⟨_, rfl, by rw [unhide HV]; exact h2, h3⟩
  · have HV : Hid (nullsL xs = beL 1 1 1 ++ leB (total 1 (marksN xs)) (bytesN xs.length 1)) := by show _ = _; rw [nullsL, hZ]; rfl
    rw [hZ] at HC
    clear hZ
    go_enter Tryz.func45, Tryz.ntmps45
    go_wp2_with (first
      | (go_at_call 58; refine (unhide HC).mono ?_; rintro e w1 ⟨rfl, hb1⟩)
      | (at_make; refine wpList_make_row _ rfl (.tmp 14) (.tmp 14) 98 rfl 87 i6 (.int .u64 0) Tryz.underlying98 hi6 z60 z61 rfl .i64 .i64 xs.length rfl rfl (by rw [z62]; omega) (by omega) ?_)
      | fail)
    have HB1 := hide hb1
    have hsz1 := hb1.size
    clear hb1
    go_loopw [18] (fun s wr => ∃ k : Nat, k ≤ xs.length ∧ s = .int .i64 (k : Int) ∧ wr.rowIs w1.heap.size 87 xs.length (markF xs k) ∧ Below w1.heap.size w1 wr) (fun s _ => xs.length - (intOf s).toNat)
    case atStart => exact ⟨0, Nat.zero_le _, rfl, (World.rowIs_made w1 (.int .u64 0) xs.length 87).congr fun j hj => by simp [markF], below_alloc (Below.refl _ _) _⟩
    case round =>
      obtain ⟨k, hk, rfl, hr, hb⟩ := hrel
      by_cases h8 : k < xs.length
      · have h9 : (k : Int) < (xs.length : Int) := by omega
        obtain ⟨x, hx⟩ : ∃ x, xs[k]? = some x := ⟨_, List.getElem?_eq_getElem h8⟩
        have hbw := below_step (unhide HB1) hb
        rcases (unhide HA).later hbw with e | ⟨rb, ro, rfl, hc⟩
        · rw [e] at hx; cases hx
        obtain ⟨c0, c1, c2⟩ := hc k x hx
        have bl := below_alloc (Below.refl _ wr) (.cells #[.int .i64 x.k, .int .i64 x.n, .string x.s] 38)
        have HP := hide (fun W => pnull_any x W)
        have hr2 := hr.alloc (.cells #[.int .i64 x.k, .int .i64 x.n, .string x.s] 38)
        have HR2 := hide hr2
        have HB2 := hide (below_step hb bl)
        have hszr := hb.size
        have hltr := hr.lt
        have HMK : Hid (∀ b : Nat, (marksN xs)[k]? = some b → ∀ j, markF xs (k + 1) j = if j = k then .int .u64 (b : Int) else markF xs k j) := fun b hbb j => by
          unfold markF
          by_cases hj : j = k
          · subst hj; simp [hbb]
          · rw [if_neg hj]
            by_cases hlt : j < k
            · rw [if_pos hlt, if_pos (by omega)]
            · rw [if_neg hlt, if_neg (by omega)]
        have hmk : (marksN xs)[k]? = some (if nullB x then 1 else 0) := by simp [marksN, hx]
        clear hc hx hr hb hr2 hbw bl
        rcases Bool.eq_false_or_eq_true (nullB x) with e1 | e1
        · have e2 : (x.k == 0) = true := e1
          rw [e2] at HP
          rw [e1] at hmk
          have HM := hide (unhide HMK 1 (by simpa using hmk))
          clear hmk
          go_wp2_with (go_at_call 48; refine (unhide HP _).mono ?_; rintro e w3 ⟨rfl, hb3⟩; have hr3 := rowIs_later (unhide HR2) hb3; have cm := hr3.cell h8; have fm := hr3.frozen k; replace hr3 := hide hr3; have HB3 := hide (below_step (unhide HB2) hb3); unfold markF at cm)
          go_roundw
          case rel =>
            refine ⟨k + 1, by omega, by go_num, ((unhide hr3).set k (.int .u64 1)).congr fun j hj => ?_, (unhide HB3).setCell (p := ⟨w1.heap.size, k, none⟩) (Nat.le_refl _) _⟩
            rw [unhide HM j]; rfl
          case measure => first | (simp [intOf]; omega) | (simp only [intOf]; omega)
        · have e2 : (x.k == 0) = false := e1
          rw [e2] at HP
          rw [e1] at hmk
          have HM := hide (unhide HMK 0 (by simpa using hmk))
          clear hmk
          go_wp2_with (go_at_call 48; refine (unhide HP _).mono ?_; rintro e w3 ⟨rfl, hb3⟩; have hr3 := hide (rowIs_later (unhide HR2) hb3); have HB3 := hide (below_step (unhide HB2) hb3))
          go_roundw
          case rel =>
            refine ⟨k + 1, by omega, by go_num, (unhide hr3).congr fun j hj => ?_, unhide HB3⟩
            rw [unhide HM j]
            by_cases h : j = k
            · subst h; rw [if_pos rfl]; simp [markF]
            · rw [if_neg h]
          case measure => first | (simp [intOf]; omega) | (simp only [intOf]; omega)
      · have h9 : ¬ (k : Int) < (xs.length : Int) := by omega
        have hk8 : k = xs.length := by omega
        rw [hk8] at hr
        have hml : (marksN xs).length = xs.length := by simp [marksN]
        have hlis : LisAt wr (some ⟨w1.heap.size, 0, none⟩) ((marksN xs).map fun n : Nat => Value.int .u64 (n : Int)) := by
          refine lis_of_row hr (by simp [marksN]) fun i y hi hy => ?_
          rw [List.getElem?_map] at hy
          obtain ⟨m, hm, rfl⟩ := Option.map_eq_some_iff.1 hy
          simp [markF, hi, hm]
        have hbw := below_step (unhide HB1) hb
        have hltr := hr.lt
        have H1 : Hid (Calls Tryz.prog 44 #[v, .int .u64 1, .int .i64 1] wr fun e w' => ∃ v', e = .returned v' ∧ (OwnB w' base v' (zs ++ beL 1 1 1) ∧ Grew w w' v v' ∧ LisAt w' (some ⟨w1.heap.size, 0, none⟩) ((marksN xs).map fun n : Nat => Value.int .u64 (n : Int)) ∧ v'.ownBlock ≠ some w1.heap.size)) := by
          refine (appnum_any base zs 1 1 v wr (by omega) (own_later (unhide HOWN) hbw) (by omega) (by have := hbw.size; omega)).mono fun e w' ⟨v', he, h1, h2⟩ => ⟨v', he, h1, (Grew.of_below hbw v).trans h2, hlis.grew h2 (fun ad e => ?_), fun e => ?_⟩
          · injection e with e
            subst e
            intro h3
            have := unhide HGV _ h3
            simp at this
            omega
          · rcases h2.2 with h3 | ⟨g, h3, h4⟩
            · rw [e] at h3
              have := unhide HGV _ h3.symm
              omega
            · rw [e] at h3
              injection h3 with h3
              omega
        have H2 : Hid (∀ W v', (OwnB W base v' (zs ++ beL 1 1 1) ∧ Grew w W v v' ∧ LisAt W (some ⟨w1.heap.size, 0, none⟩) ((marksN xs).map fun n : Nat => Value.int .u64 (n : Int)) ∧ v'.ownBlock ≠ some w1.heap.size) → Calls Tryz.prog 59 #[v', .slice (some ⟨w1.heap.size, 0, none⟩) xs.length xs.length, .int .i64 1] W fun e w' => ∃ v3, e = .returned v3 ∧ OwnB w' base v3 ((zs ++ beL 1 1 1) ++ leB (total 1 (marksN xs)) (bytesN xs.length 1)) ∧ Grew w w' v v3) := fun W v' ⟨h1, h2, h3, h4⟩ => by
          have := apbits_any base (zs ++ beL 1 1 1) (some ⟨w1.heap.size, 0, none⟩) xs.length (marksN xs) 1 v' W h1 (by rw [List.length_append, beL_len]; omega) (by omega) (by omega) (fun n hn => by
            obtain ⟨x, _, rfl⟩ := List.mem_map.1 hn
            split <;> decide) (by have := h2.1.size; omega) h3 (fun ad e => by injection e with e; subst e; exact h4)
          rw [hml] at this
          exact this.mono fun e w' ⟨v3, he, h5, h6⟩ => ⟨v3, he, h5, h2.trans h6⟩
        clear hr hb hlis hbw hk8 hml
        go_wp2_with (first
          | (go_at_call 44; refine (unhide H1).mono ?_; rintro e w2 ⟨v2, rfl, h2⟩; replace h2 := hide h2)
          | (go_at_call 59; refine (unhide H2 _ _ (unhide h2)).mono ?_; rintro e w3 ⟨v3, rfl, h5, h6⟩))
        go_ret
        exact ⟨_, rfl, by rw [unhide HV, ← List.append_assoc]; exact h5, h6⟩
end Go.Proofs.YtjnggnhgambmkaaGreat
set_option linter.unusedSimpArgs false
set_option linter.unusedVariables false
namespace Go.Proofs.YtjnggnhgambmkaaGreat
open Go.RowKit Go.Sort

theorem ownB_ownV_ne {W : World} {b1 b2 : Nat} {v u : Value} {zs : List Int} {xs : List Val} (h1 : OwnB W b1 v zs) (h2 : OwnV W b2 u xs) : ∀ g, u.ownBlock = some g → v.ownBlock ≠ some g := by
  intro g hg hv
  rcases h1.2 with ⟨rfl, _⟩ | ⟨g1, _, c1, rfl, _, hh1, _⟩
  · simp [Value.ownBlock] at hv
  rcases h2.2 with ⟨rfl, _⟩ | ⟨g2, _, c2, rfl, _, hh2, _⟩
  · simp [Value.ownBlock] at hg
  simp only [Value.ownBlock, Option.some.injEq] at hg hv
  subst hg hv
  rw [hh1] at hh2
  simp at hh2
theorem OwnV.grew {w w' : World} {B : Nat} {u v v' : Value} {xs : List Val} (h : OwnV w B u xs) (hg : Grew w w' v v') (hne : ∀ g, u.ownBlock = some g → v.ownBlock ≠ some g) : OwnV w' B u xs := by
  refine World.ownsRow.kept h hg.1 ?_
  cases hu : u.ownBlock with
  | none => exact .inl rfl
  | some g => exact .inr fun e => hne g hu e.symm
theorem ownV_slice {w : World} {base : Nat} {v : Value} {xs : List Val} (h : OwnV w base v xs) : ∃ a c, v = .slice a xs.length c ∧ (∀ ad, a = some ad → ∃ b o, ad = ⟨b, o, none⟩) ∧ (a = none → xs = []) ∧ RowAt w a xs := by
  obtain ⟨a, c, e, hr⟩ := ownV_row h
  refine ⟨a, c, e, ?_, ?_, hr⟩
  · rcases h.2 with ⟨rfl, _⟩ | ⟨g, cap, cur, rfl, _⟩
    · intro ad e2; injection e with e3; subst e3; cases e2
    · intro ad e2; injection e with e3; subst e3; injection e2 with e2; exact ⟨_, _, e2.symm⟩
  · rintro rfl
    rcases h.2 with ⟨rfl, h0⟩ | ⟨g, cap, cur, rfl, _⟩
    · exact List.eq_nil_of_length_eq_zero h0
    · injection e with e3; cases e3
/-- The numbers that are laid so far. -/
def numF (ns : List Nat) (k : Nat) (j : Nat) : Value := .int .u64 (if j < k then ((ns[j]?).getD 0 : Nat) else 0 : Int)
theorem numF_next {ns : List Nat} {k b : Nat} (h : ns[k]? = some b) (j : Nat) : numF ns (k + 1) j = if j = k then .int .u64 (b : Int) else numF ns k j := by
  unfold numF
  by_cases hj : j = k
  · subst hj; simp [h]
  · rw [if_neg hj]
    by_cases hlt : j < k
    · rw [if_pos hlt, if_pos (by omega)]
    · rw [if_neg hlt, if_neg (by omega)]
theorem numF_lis {w : World} {g t : Nat} {ns : List Nat} (h : w.rowIs g t ns.length (numF ns ns.length)) : LisAt w (some ⟨g, 0, none⟩) (ns.map fun n : Nat => Value.int .u64 (n : Int)) := by
  refine lis_of_row h (by simp) fun i y hi hy => ?_
  rw [List.getElem?_map] at hy
  obtain ⟨m, hm, rfl⟩ := Option.map_eq_some_iff.1 hy
  simp only [numF, if_pos hi, hm, Option.getD_some]
theorem bl_lt (n : Nat) : n < 2 ^ bl n := by
  unfold bl
  split
  · omega
  · exact Nat.lt_log2_self
theorem bl_le {n k : Nat} (h : n < 2 ^ k) : bl n ≤ k := by
  unfold bl
  split
  · omega
  · have := (Nat.log2_lt (by assumption)).2 h
    omega
/-- Where a value is among the words. -/
theorem vpos_any (aa : Option Addr) (ca : Nat) (W : List Val) (t : Val) (w : World) (hl : W.length ≤ 1048576) (ha : RowAt w aa W) (hr : Rises W) :
    Calls Tryz.prog 66 #[.slice aa W.length ca, t.v, .func (.func 64) #[] #[]] w fun e w' => (∃ f : Bool, e = .returned (.tuple #[.int .i64 (posN W t : Int), .bool f])) ∧ Below w.heap.size w w' :=
  (vsearch_any aa ca W t w hl ha (hr.mono t)).mono fun e w' ⟨⟨k, f, he, hk, h1, h2⟩, hb⟩ => ⟨⟨f, by rw [posN_eq hk h1 h2]; exact he⟩, hb⟩
/-- The words' bytes, and where among them each value is. -/
def wordsB (W xs : List Val) : List Int := (beL (W.length : Int) 2 2 ++ plains W) ++ leB (total (bl (W.length - 1)) (xs.map (posN W))) (bytesN xs.length (bl (W.length - 1)))
/-- The words of values. -/
def WordsOf (xs W : List Val) : Prop := ∃ S, S.Perm xs ∧ Rises S ∧ W = compL S
theorem WordsOf.len {xs W : List Val} (h : WordsOf xs W) : W.length ≤ xs.length := by
  obtain ⟨S, hp, _, rfl⟩ := h
  rw [← hp.length_eq]
  exact compL_len S
theorem WordsOf.rises {xs W : List Val} (h : WordsOf xs W) : Rises W := by
  obtain ⟨S, _, hr, rfl⟩ := h
  exact compL_rises hr
theorem WordsOf.mem {xs W : List Val} (h : WordsOf xs W) {x : Val} (hx : x ∈ xs) : x ∈ W := by
  obtain ⟨S, hp, _, rfl⟩ := h
  exact compL_mem (hp.mem_iff.2 hx)
theorem WordsOf.sub {xs W : List Val} (h : WordsOf xs W) {x : Val} (hx : x ∈ W) : x ∈ xs := by
  obtain ⟨S, hp, _, rfl⟩ := h
  exact hp.mem_iff.1 ((compL_sub S).mem hx)
theorem plains_len4 (W : List Val) (hs : ∀ x ∈ W, x.s.size ≤ 1000) (hl : W.length ≤ 4096) : (plains W).length ≤ 4128768 := by
  have := plains_len W hs
  omega

end Go.Proofs.YtjnggnhgambmkaaGreat

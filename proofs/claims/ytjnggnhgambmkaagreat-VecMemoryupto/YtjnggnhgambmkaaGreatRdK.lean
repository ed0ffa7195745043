import Derived.Test.YtjnggnhgambmkaaGreatRdJ
import Derived.Test.YtjnggnhgambmkaaGreatPackB
import Derived.Laws.CopyOwn
set_option linter.unusedSimpArgs false
set_option linter.unusedVariables false
namespace Go.Proofs.YtjnggnhgambmkaaGreat
open Go.RowKit Go.Sort

def strictB (W : List Val) : Bool := (List.range (W.length - 1)).all fun i => decide (ordV (W.getD i .null) (W.getD (i + 1) .null) < 0)
theorem strict_next {W : List Val} (h : strictB W = true) {i : Nat} {x y : Val} (hx : W[i]? = some x) (hy : W[i + 1]? = some y) : ordV x y < 0 := by
  unfold strictB at h
  rw [List.all_eq_true] at h
  obtain ⟨hl, _⟩ := List.getElem?_eq_some_iff.1 hy
  have := h i (by rw [List.mem_range]; omega)
  simp only [List.getD_eq_getElem?_getD, hx, hy, Option.getD_some, decide_eq_true_eq] at this
  exact this
def wordsD (kind : Int) (count : Nat) (l : List UInt8) : Option (List Val × List UInt8) :=
  (numD 2 l).bind fun p => (plainsD kind p.1 p.2).bind fun q => if strictB q.1 then
    (bitsD count (bl (p.1 - 1)) q.2).bind fun r =>
      if (∀ k ∈ numsOf r.1 (bl (p.1 - 1)) count, k < p.1) ∧ (∀ j, j < p.1 → j ∈ numsOf r.1 (bl (p.1 - 1)) count) then some ((numsOf r.1 (bl (p.1 - 1)) count).map fun k => q.1.getD k .null, r.2) else none
  else none
theorem Rd.below {w w' : World} {b : Nat} {l : List UInt8} (h : Rd w b l) (hb : Below w.heap.size w w') : Rd w' b l := World.rowIs.of_block h (hb.block b h.ne)
theorem ensureB (t : Bool) (h : t = true) (w : World) : Calls Tryz.prog 54 #[.bool t] w fun e w' => e = .returned (.tuple #[]) ∧ Below w.heap.size w w' :=
  (ensureT t h w).mono fun e w' ⟨he, hw⟩ => ⟨he, hw ▸ Below.refl _ _⟩
theorem below_trans' {a b c : World} (h : Below a.heap.size a b) (g : Below b.heap.size b c) : Below a.heap.size a c := below_step h g
theorem RowAt.grx {w w' : World} {a : Option Addr} {xs : List Val} {B : Nat} (h : RowAt w a xs) (hg : Gr w w' B) (hne : ∀ ad, a = some ad → ad.block ≠ B) : RowAt w' a xs := by
  rcases h with h | ⟨b, off, ha, h⟩
  · exact .inl h
  · refine .inr ⟨b, off, ha, fun i x hx => ?_⟩
    obtain ⟨h0, h1, h2⟩ := h i x hx
    have hs := hne _ ha
    have hk : ∀ j v, w.cell? ⟨b, j, none⟩ = some v → w'.cell? ⟨b, j, none⟩ = some v := fun j v hv => by
      rw [World.cell?_of_block (a := ⟨b, j, none⟩) (hg.block b (World.block_lt_of_cell? _ _ hv) (fun e => hs (by injection e)))]; exact hv
    exact ⟨hk _ _ h0, hk _ _ h1, hk _ _ h2⟩
def useF (l : List Nat) (j : Nat) : Bool := l.contains j
set_option maxHeartbeats 800000 in
set_option maxRecDepth 100000 in
theorem words_yes {b count m : Nat} {kind : Int} {l l1 l2 t r : List UInt8} {W : List Val} {w : World} (hc : count ≤ 4096) (hk : kind = 1 ∨ kind = 2) (h : Rd w b l) (hl : l.length ≤ 140737488355328)
    (hm : numD 2 l = some (m, l1)) (hW : plainsD kind m l1 = some (W, l2)) (hs : strictB W = true) (hb : bitsD count (bl (m - 1)) l2 = some (t, r))
    (h1 : ∀ k ∈ numsOf t (bl (m - 1)) count, k < m) (h2 : ∀ j, j < m → j ∈ numsOf t (bl (m - 1)) count) :
    Calls Tryz.prog 74 #[.pointer (some ⟨b, 0, none⟩), .int .i64 kind, .int .i64 count] w fun e w' => ∃ v, e = .returned v ∧ OwnV w' w.heap.size v ((numsOf t (bl (m - 1)) count).map fun k => W.getD k .null) ∧ Rd w' b r ∧ Gr w w' b := by
  obtain ⟨i4, hi4, z40, z41, z42⟩ := info_parts Tryz.info38
  obtain ⟨i6, hi6, z60, z61, z62⟩ := info_parts Tryz.info4
  have hm2 : m < 65536 := by
    obtain ⟨g1, rfl, rfl⟩ := numD_some hm
    have := beV_lt (l.take 2)
    have h2 : (l.take 2).length = 2 := by rw [List.length_take]; omega
    rw [h2] at this; simpa using this
  have hl1 := numD_le hm
  obtain ⟨hWl, hl2⟩ := plainsD_len hW
  have HN := hide (numd_yes h hl hm (by decide))
  have HP : Hid (∀ W2, Rd W2 b l1 → Calls Tryz.prog 72 #[.pointer (some ⟨b, 0, none⟩), .int .i64 kind, .int .i64 m] W2 fun e w' => ∃ v, e = .returned v ∧ OwnV w' W2.heap.size v W ∧ Rd w' b l2 ∧ Gr W2 w' b) := fun W2 hW2 => by
    have := plains_any b m kind l1 W2 hk (by omega) hW2 (by omega)
    rw [hW] at this
    refine this.mono ?_
    rintro e w' (⟨vs, r', v, he, h3, h4, h5, h6⟩ | ⟨he, _⟩)
    · injection he with he; injection he with e1 e2; subst e1; subst e2
      exact ⟨v, h3, h4, h5, h6⟩
    · cases he
  have hbl : bl (m - 1) ≤ 64 := bl_le (by have : (2:Nat)^64 = 18446744073709551616 := by decide
                                          omega)
  obtain ⟨d, hd⟩ : ∃ d, d = bl (m - 1) := ⟨_, rfl⟩
  rw [← hd] at hb h1 h2 hbl ⊢
  have HB := hide (fun W2 (hW2 : Rd W2 b l2) => bitsd_yes hc hbl hW2 (by omega) hb)
  have HWD : Hid (∀ W2, Calls Tryz.prog 67 #[.int .i64 m] W2 fun e w' => e = .returned (.int .i64 (d : Int)) ∧ w' = W2) := fun W2 => by rw [hd]; exact widthof_any m W2 (by omega)
  have htl := hide (bitsD_some hb).1
  have hbw := h.ne
  have HS := hide hs
  have HWL := hide hWl
  have H1 := hide h1
  have H2 := hide h2
  clear h h1 h2 hs hd hWl
  go_enter Tryz.func74, Tryz.ntmps74
  go_wp2_with (first
    | (go_at_call 53; refine (unhide HN).mono ?_; rintro e w1 ⟨rfl, hr1, hg1⟩)
    | (go_at_call 72; refine (unhide HP _ hr1).mono ?_; rintro e w2 ⟨v2, rfl, ho2, hr2, hg2⟩; obtain ⟨wa, wc, rfl, hwa1, hwa2, hrow2⟩ := ownV_slice ho2; rw [unhide HWL]))
  have hG2 := hg1.trans hg2
  have hz1 := hg1.size
  have hz2 := hG2.size
  have HO2 := hide ho2
  have HROW := hide hrow2
  clear hg1 hg2 hr1 ho2 hrow2
  go_loopw [22] (fun i wr => ∃ k : Nat, k ≤ m ∧ i = .int .i64 (k : Int) ∧ Below w2.heap.size w2 wr) (fun i _ => m - (intOf i).toNat)
  case atStart => exact ⟨0, Nat.zero_le _, rfl, Below.refl _ _⟩
  case round =>
    obtain ⟨k, hkm, rfl, hbr⟩ := hrel
    by_cases hlt : k < m
    · have h9 : (k : Int) < (m : Int) := by omega
      have HBR := hide hbr
      by_cases hk0 : k = 0
      · subst hk0
        clear hbr
        go_wp2_with fail
        refine wp_region_quiet_below (by kernel_rfl) (by kernel_rfl) ?_
        repeat (go_big_quiet_step (first
          | (go_at_call 54; exact Calls.regrown_of (ensureB _ rfl _))))
        refine wpQuiet_nil ?_
        intro w' hw'
        have hB : Below wr.heap.size wr w' := by obtain ⟨p, rfl⟩ := hw'; exact below_regrown _ _ _
        clear hw'
        go_wp2
        go_roundw
        case rel => exact ⟨1, by omega, by go_num, below_step (unhide HBR) hB⟩
        case measure => simp [intOf]; omega
      · obtain ⟨j, hj⟩ : ∃ j, k = j + 1 := ⟨k - 1, by omega⟩
        obtain ⟨x, hx⟩ : ∃ x, W[j]? = some x := ⟨_, List.getElem?_eq_getElem (by rw [unhide HWL]; omega)⟩
        obtain ⟨y, hy⟩ : ∃ y, W[k]? = some y := ⟨_, List.getElem?_eq_getElem (by rw [unhide HWL]; omega)⟩
        have HLT := hide (strict_next (unhide HS) hx (by rw [← hj]; exact hy))
        obtain ⟨vb, vo, rfl, c0, c1, c2⟩ := ((unhide HROW).later hbr).lo hx
        obtain ⟨vb', vo', e, d0, d1, d2⟩ := ((unhide HROW).later hbr).lo hy
        injection e with e
        injection e with e1 e2
        subst e1; subst e2
        have k0 := cell_regrown c0
        have k1 := cell_regrown c1
        have k2 := cell_regrown c2
        have k3 := cell_regrown d0
        have k4 := cell_regrown d1
        have k5 := cell_regrown d2
        have ej : (k : Int) - 1 = (j : Int) := by omega
        have g0 : ((k : Int) == 0) = false := by simpa using hk0
        have hjm : (j : Int) < (m : Int) := by omega
        have HO := hide (order_o x y)
        generalize ordV x y = O at HLT HO
        have HLT2 : Hid (decide (O < 0) = true) := decide_eq_true (unhide HLT)
        clear c0 c1 c2 d0 d1 d2 hbr hx hy hj hk0
        go_wp2_with fail
        refine wp_region_quiet_below (by kernel_rfl) (by kernel_rfl) ?_
        repeat (go_big_quiet_step (first
          | (go_at_call 64; exact Calls.regrown_of (unhide HO _))
          | (go_at_call 54; exact Calls.regrown_of (ensureB _ (unhide HLT2) _))))
        refine wpQuiet_nil ?_
        intro w' hw'
        have hB : Below wr.heap.size wr w' := by obtain ⟨p, rfl⟩ := hw'; exact below_regrown _ _ _
        clear hw'
        go_wp2
        go_roundw
        case rel => exact ⟨k + 1, by omega, by go_num, below_step (unhide HBR) hB⟩
        case measure => simp [intOf]; omega
    · have h9 : ¬ (k : Int) < (m : Int) := by omega
      have hr3 := hr2.below hbr
      have hO3 := (unhide HO2).later hbr
      have hrow3 := (unhide HROW).later hbr
      have hG3 := hG2.trans (Gr.of_below hbr b)
      have hz3 := hbr.size
      clear hbr HROW HO2 hr2 hG2
      replace hrow3 := hide hrow3
      have HO3 := hide hO3
      have HR3 := hide hr3
      have HG3 := hide hG3
      have HWLO : Hid (∀ ad, wa = some ad → ad.block < wr.heap.size ∧ b < ad.block) := fun ad had => by
        obtain ⟨g, o, rfl⟩ := hwa1 ad had
        subst had
        have := World.ownsRow.lt (unhide HO3) g rfl
        exact ⟨this.2, Nat.lt_of_lt_of_le hbw (Nat.le_trans hz1 this.1)⟩
      clear hO3 hr3 hG3
      go_wp2_with (first
        | (go_at_call 67; refine (unhide HWD _).mono ?_; rintro e w3 ⟨rfl, rfl⟩)
        | (go_at_call 71; refine (unhide HB _ (unhide HR3)).mono ?_; rintro e w4 ⟨A, B, C, rfl, hb4, hA, hB, hC, hr4, hg4⟩)
        | (at_make; first | (refine wpList_make_row _ rfl (.tmp 49) (.tmp 49) 25 rfl 4 i6 (.bool false) Tryz.underlying25 hi6 z60 z61 rfl .i64 .i64 m rfl rfl (by rw [z62]; omega) (by omega) ?_) | (refine wpList_make_rows _ rfl (.tmp 51) (.tmp 51) 22 rfl 38 i4 _ Tryz.underlying22 hi4 z40 3 z41 .i64 .i64 count rfl rfl (by rw [z42]; omega) (by omega) ?_)))
      have hz4 := hg4.size
      obtain ⟨hA4, hB4, hC4⟩ := hb4.lt
      have hG4 := (unhide HG3).trans hg4
      have hrow4 := (unhide hrow3).grx hg4 (fun ad had => by have := unhide HWLO ad had; omega)
      have HLO4 : Hid (∀ ad, wa = some ad → ad.block < w4.heap.size ∧ ad.block ≠ A ∧ ad.block ≠ B ∧ ad.block ≠ C) := fun ad had => by have := unhide HWLO ad had; omega
      have HU : Hid (((w4.alloc (.cells (madeCells #[.bool false] m) 4)).alloc (.cells (madeCells #[.int .i64 0, .int .i64 0, .string ⟨#[]⟩] (count * 3)) 38)).rowIs w4.heap.size 4 m (fun j => .bool (useF [] j))) :=
        ((World.rowIs_made w4 (.bool false) m 4).congr fun j hj => by simp [useF]).alloc _
      have HF : Hid (∀ ys, Fill ((w4.alloc (.cells (madeCells #[.bool false] m) 4)).alloc (.cells (madeCells #[.int .i64 0, .int .i64 0, .string ⟨#[]⟩] (count * 3)) 38)) (w4.heap.size + 1) count 0 ys) := fun ys => by
        have := Fill.start (w4.alloc (.cells (madeCells #[.bool false] m) 4)) count ys
        simpa using this
      generalize hks : numsOf t d count = ks at *
      have HKS := hide hks
      have HKL : Hid (ks.length = count) := by rw [← hks]; exact nums_len _ _ _
      have HKA : Hid (∀ k, k < count → ks[k]? = some (numAt (leV t) d k)) := fun k hk => by rw [← hks]; exact nums_at hk
      have hwz : w.heap.size ≤ w4.heap.size := by omega
      have hBw : w.heap.size ≤ B := by omega
      clear hks HWLO hrow3 HG3 HR3 HO3 hA hB hC hz1 hz2 hz3 hg4
      go_loopw [55] (fun i wr => ∃ k : Nat, k ≤ count ∧ i = .int .i64 (k : Int) ∧ Fill wr (w4.heap.size + 1) count k (ks.map fun k => W.getD k .null) ∧ wr.rowIs w4.heap.size 4 m (fun j => .bool (useF (ks.take k) j)) ∧ Bits wr A B C d (d * k) t ∧ Rd wr b r ∧ RowAt wr wa W ∧ Gr w wr b) (fun i _ => count - (intOf i).toNat)
      case atStart => exact ⟨0, Nat.zero_le _, rfl, unhide HF _, unhide HU, (hb4.alloc _).alloc _, (hr4.alloc _).alloc _, (hrow4.later (below_alloc (Below.refl _ _) _)).later (below_alloc (Below.refl _ _) _), hG4.trans ((Gr.alloc _ _ _).trans (Gr.alloc _ _ _))⟩
      case round =>
        obtain ⟨k, hkc, rfl, hf, hu, hbi, hrr, hrw, hgr⟩ := hrel
        by_cases hlt : k < count
        · have h9 : (k : Int) < (count : Int) := by omega
          have hat := unhide HKA k hlt
          have hxm := unhide H1 _ (List.mem_of_getElem? hat)
          have HC := hide (next_any hbi hbl hlt hc (unhide htl))
          have HT1 : Hid (ks.take (k + 1) = ks.take k ++ [numAt (leV t) d k]) := by
            obtain ⟨g1, g2⟩ := List.getElem?_eq_some_iff.1 hat
            show _ = _
            rw [List.take_succ_eq_append_getElem g1, g2]
          obtain ⟨y, hy⟩ : ∃ y, W[numAt (leV t) d k]? = some y := ⟨_, List.getElem?_eq_getElem (by rw [unhide HWL]; exact hxm)⟩
          have HY : Hid ((ks.map fun k => W.getD k .null)[k]? = some y) := by
            show _ = _
            rw [List.getElem?_map, hat]
            simp [List.getD_eq_getElem?_getD, hy]
          obtain ⟨vb, vo, rfl, _, _, _⟩ := hrw.lo hy
          have hvb := unhide HLO4 _ rfl
          simp only at hvb
          have HKEEP : Hid (∀ w5, Gr wr w5 B → Fill w5 (w4.heap.size + 1) count k (ks.map fun k => W.getD k .null) ∧ w5.rowIs w4.heap.size 4 m (fun j => .bool (useF (ks.take k) j)) ∧ Rd w5 b r ∧ RowAt w5 (some ⟨vb, vo, none⟩) W ∧ Gr w w5 b) := fun w5 hg5 =>
            ⟨hf.grx hg5 (by omega), row_grx hu hg5 (by omega), hrr.grx hg5 (by omega), hrw.grx hg5 (fun ad had => by injection had with had; subst had; simp only; omega), hgr.fresh hg5 (by omega)⟩
          have HLO := hide (fun w5 (h5 : RowAt w5 (some ⟨vb, vo, none⟩) W) => h5.lo hy)
          generalize numAt (leV t) d k = x at hat hxm HC HT1 hy HLO
          have hxi : (x : Int) < (m : Int) := by omega
          have HUS : Hid (∀ j, useF (ks.take (k + 1)) j = if j = x then true else useF (ks.take k) j) := fun j => by
            unfold useF
            rw [unhide HT1]
            by_cases hj : j = x <;> simp [hj]
          have HSET : Hid (∀ w5, Fill w5 (w4.heap.size + 1) count k (ks.map fun k => W.getD k .null) → w5.rowIs w4.heap.size 4 m (fun j => .bool (useF (ks.take k) j)) → Rd w5 b r → RowAt w5 (some ⟨vb, vo, none⟩) W → Gr w w5 b → Bits w5 A B C d (d * (k + 1)) t →
              Fill (w5.setCell ⟨w4.heap.size, x, none⟩ (.bool true)) (w4.heap.size + 1) count k (ks.map fun k => W.getD k .null) ∧ (w5.setCell ⟨w4.heap.size, x, none⟩ (.bool true)).rowIs w4.heap.size 4 m (fun j => .bool (useF (ks.take (k + 1)) j)) ∧ Rd (w5.setCell ⟨w4.heap.size, x, none⟩ (.bool true)) b r ∧ RowAt (w5.setCell ⟨w4.heap.size, x, none⟩ (.bool true)) (some ⟨vb, vo, none⟩) W ∧ Gr w (w5.setCell ⟨w4.heap.size, x, none⟩ (.bool true)) b ∧ Bits (w5.setCell ⟨w4.heap.size, x, none⟩ (.bool true)) A B C d (d * (k + 1)) t) :=
            fun w5 a1 a2 a3 a4 a5 a6 => ⟨a1.grx (grown_set _ _ _ _) (by omega), (a2.set x (.bool true)).congr fun j hj => by rw [unhide HUS j]; by_cases e : j = x <;> simp [e], a3.grx (grown_set _ _ _ _) (by omega), a4.grx (grown_set _ _ _ _) (fun ad had => by injection had with had; subst had; simp only; omega), a5.fresh (grown_set _ _ _ _) (by omega), a6.set _ (by omega) (by omega) (by omega)⟩
          clear hat hf hu hbi hrr hrw hgr
          go_wp2_with (first
            | (go_at_call 83; refine (unhide HC).mono ?_; rintro e w5 ⟨rfl, hb5, hg5⟩; obtain ⟨hf5, hu5, hr5, hw5, hG5⟩ := unhide HKEEP w5 hg5; have cu := hu5.cell hxm; have fu := hu5.frozen x; obtain ⟨hf6, hu6, hr6, hw6, hG6, hb6⟩ := unhide HSET w5 hf5 hu5 hr5 hw5 hG5 hb5; obtain ⟨p0, p1, p2, q0, q1, q2⟩ := hf6.cells hlt; obtain ⟨_, _, ea, c0, c1, c2⟩ := unhide HLO _ hw6; injection ea with ea; injection ea with ea1 ea2; subst ea1; subst ea2; replace hf6 := hide hf6; replace hu6 := hide hu6; replace hr6 := hide hr6; replace hw6 := hide hw6; replace hG6 := hide hG6; replace hb6 := hide hb6; clear hf5 hu5 hr5 hw5 hG5 hb5)
            | (go_at_call 54; refine (ensure_yes _).mono ?_; rintro e w6 ⟨rfl, rfl⟩))
          go_roundw
          case rel => exact ⟨k + 1, by omega, by go_num, (unhide hf6).put (y := y) (unhide HY), (((unhide hu6).setOther (by simp) _).setOther (by simp) _).setOther (by simp) _, (unhide hb6).put3 (by omega) (by omega) (by omega) _ _ _ _ _ _, (unhide hr6).put3 (by omega) _ _ _ _ _ _, (((unhide hw6).grx (grown_set _ _ _ _) (by intro ad had; injection had with had; subst had; simp only; omega)).grx (grown_set _ _ _ _) (by intro ad had; injection had with had; subst had; simp only; omega)).grx (grown_set _ _ _ _) (by intro ad had; injection had with had; subst had; simp only; omega), (unhide hG6).put3 (by omega) _ _ _ _ _ _⟩
          case measure => simp [intOf]; omega
        · have h9 : ¬ (k : Int) < (count : Int) := by omega
          have ek : k = count := by omega
          subst ek
          have etk : ks.take k = ks := List.take_of_length_le (by rw [unhide HKL]; omega)
          rw [etk] at hu
          have HCN := hide (bcontains_any w4.heap.size m (useF ks) wr (by omega) hu)
          have eall : (List.range m).all (useF ks) = true := by
            rw [List.all_eq_true]
            intro j hj
            have := unhide H2 j (List.mem_range.1 hj)
            unfold useF
            simpa using this
          rw [eall] at HCN
          have HOWN : Hid (OwnV wr w.heap.size (.slice (some ⟨w4.heap.size + 1, 0, none⟩) k k) (ks.map fun k => W.getD k .null) ∧ Rd wr b r ∧ Gr w wr b) := ⟨hf.own (by rw [List.length_map]; exact unhide HKL) (by omega) (by omega), hrr, hgr⟩
          clear hf hu hbi hrr hrw hgr etk eall
          go_wp2_with (first
            | (go_at_call 86; refine (unhide HCN).mono ?_; rintro e w6 ⟨rfl, rfl⟩)
            | (go_at_call 54; refine (ensure_yes _).mono ?_; rintro e w7 ⟨rfl, rfl⟩))
          go_ret
          exact ⟨_, rfl, by rw [unhide HKS]; exact unhide HOWN⟩
end Go.Proofs.YtjnggnhgambmkaaGreat
set_option linter.unusedSimpArgs false
set_option linter.unusedVariables false
namespace Go.Proofs.YtjnggnhgambmkaaGreat
open Go.RowKit Go.Sort

theorem run_copy3 (w : World) (ty : TypeId) (g o dLen dCap : Nat) (a : Addr) (sLen sCap n : Nat) (cur : Array Value) (t : TypeId) (cs : List Value)
    (hg : w.heap[g]? = some (.cells cur t (0, 0))) (hn : n = Nat.min sLen dLen) (hl : cs.length = n * 3)
    (hsrc : ∀ j v, cs[j]? = some v → w.cell? (a.add j) = some v) (hfit : o + cs.length ≤ cur.size) (h1 : ∀ v ∈ cs, v.oneCell' = true) :
    (Builtin.copy_ #[22, 22] ty #[.slice (some ⟨g, o, none⟩) dLen dCap, .slice (some a) sLen sCap]).run Tryz.prog w =
      .ok (goInt n) (w.setRow g (cur.toList.take o ++ cs ++ cur.toList.drop (o + cs.length)).toArray) := by
  obtain ⟨i4, hi4, z40, z41, z42⟩ := info_parts Tryz.info38
  have hld := run_loadCells_list (P := Tryz.prog) w a cs hsrc
  have hst := run_storeCells_at Tryz.prog g o t cs 0 cur w hg (by simpa using hfit) h1
  rw [hl] at hld
  simp [Builtin.copy_, run_underlying Tryz.underlying22, Builtin.lenOf, Builtin.firstCells, sizeOf, typeInfo, hi4, z41, ← hn, hld, hst]
/-- A row of values, whole. -/
def RowL (w : World) (g : Nat) (ys : List Val) : Prop := w.heap[g]? = some (.cells (ys.flatMap c3).toArray 38 (0, 0))
theorem flat_take3 : ∀ (ys : List Val) (n : Nat), (ys.flatMap c3).take (n * 3) = (ys.take n).flatMap c3
  | ys, 0 => by simp
  | [], n + 1 => by simp
  | y :: ys, n + 1 => by
    have := flat_take3 ys n
    rw [List.flatMap_cons, List.take_succ_cons, List.flatMap_cons, Nat.succ_mul, Nat.add_comm]
    show List.take (3 + n * 3) (Value.int .i64 y.k :: Value.int .i64 y.n :: Value.string y.s :: ys.flatMap c3) = _
    rw [show 3 + n * 3 = (n * 3 + 1 + 1) + 1 by omega, List.take_succ_cons, List.take_succ_cons, List.take_succ_cons, this]
    rfl
theorem flat_drop : ∀ (ys : List Val) (n : Nat), (ys.flatMap c3).drop (n * 3) = (ys.drop n).flatMap c3
  | ys, 0 => by simp
  | [], n + 1 => by simp
  | y :: ys, n + 1 => by
    have := flat_drop ys n
    rw [List.flatMap_cons, List.drop_succ_cons, Nat.succ_mul, Nat.add_comm]
    show List.drop (3 + n * 3) (Value.int .i64 y.k :: Value.int .i64 y.n :: Value.string y.s :: ys.flatMap c3) = _
    rw [show 3 + n * 3 = (n * 3 + 1 + 1) + 1 by omega, List.drop_succ_cons, List.drop_succ_cons, List.drop_succ_cons, this]
theorem RowL.cell {w : World} {g : Nat} {ys : List Val} (h : RowL w g ys) {i : Nat} {v : Value} (hv : (ys.flatMap c3)[i]? = some v) : w.cell? ⟨g, i, none⟩ = some v := by
  unfold World.cell?
  simp only [RowL] at h
  simp [h, hv]
theorem RowL.copy {w : World} {g n : Nat} {ys zs : List Val} {ty : TypeId} {dLen dCap sLen sCap m : Nat} {a : Addr} (h : RowL w g ys) (hm : m = Nat.min sLen dLen) (hz : zs.length = m) (hfit : n + m ≤ ys.length)
    (hsrc : ∀ j v, (zs.flatMap c3)[j]? = some v → w.cell? (a.add j) = some v) :
    ∃ w', (Builtin.copy_ #[22, 22] ty #[.slice (some ⟨g, n * 3, none⟩) dLen dCap, .slice (some a) sLen sCap]).run Tryz.prog w = .ok (goInt m) w' ∧ RowL w' g (ys.take n ++ zs ++ ys.drop (n + m)) ∧ ∀ B w0, Below B w0 w → B ≤ g → Below B w0 w' := by
  refine ⟨_, run_copy3 w ty g (n * 3) dLen dCap a sLen sCap m _ 38 (zs.flatMap c3) h hm (by rw [flat_len, hz]) hsrc (by rw [flat_len, hz]; simp only [List.size_toArray]; rw [flat_len]; omega) (fun v hv => by
    obtain ⟨z, _, hz⟩ := List.mem_flatMap.1 hv
    exact c3_one z v hz), ?_, fun B w0 hb hB => below_setRow hb hB _⟩
  have := setRow_heap w g _ ((ys.flatMap c3).toArray.toList.take (n * 3) ++ zs.flatMap c3 ++ (ys.flatMap c3).toArray.toList.drop (n * 3 + (zs.flatMap c3).length)).toArray 38 _ h
  unfold RowL
  rw [this]
  congr 2
  rw [flat_len, hz, ← Nat.add_mul, flat_take3, flat_drop, List.flatMap_append, List.flatMap_append]
theorem RowL.made (w : World) (n : Nat) : RowL (w.alloc (.cells (madeCells #[.int .i64 0, .int .i64 0, .string ⟨#[]⟩] (n * 3)) 38)) w.heap.size (List.replicate n Val.null) := by
  unfold RowL
  have e : madeCells #[.int .i64 0, .int .i64 0, .string ⟨#[]⟩] (n * 3) = ((List.replicate n Val.null).flatMap c3).toArray := by
    apply Array.ext
    · rw [size_madeCells]; simp only [List.size_toArray]; rw [flat_len, List.length_replicate]
    · intro j h1 h2
      rw [size_madeCells] at h1
      have hx : (List.replicate n Val.null)[j / 3]? = some Val.null := by rw [List.getElem?_replicate, if_pos (by omega)]
      have hf := flat_at (List.replicate n Val.null) (j / 3) (j % 3) Val.null hx (Nat.mod_lt _ (by decide))
      rw [show j / 3 * 3 + j % 3 = j by omega] at hf
      have h3 : j % 3 = 0 ∨ j % 3 = 1 ∨ j % 3 = 2 := by omega
      have hg : ((List.replicate n Val.null).flatMap c3)[j]? = some (((List.replicate n Val.null).flatMap c3).toArray[j]) := by simp
      rw [hg] at hf
      simp only [madeCells, Array.getElem_map, Array.getElem_range]
      rcases h3 with h3 | h3 | h3 <;> (rw [h3] at hf; simp [h3]; simp [c3, Val.null] at hf; exact hf.symm)
  rw [e]
  exact Deep.blk_alloc_new _ _
theorem RowL.own {w : World} {g B : Nat} {ys : List Val} (h : RowL w g ys) (hB : B ≤ g) (hl : ys.length ≤ 100000) : OwnV w B (.slice (some ⟨g, 0, none⟩) ys.length ys.length) ys := by
  refine ⟨flat_len ys, .inr ⟨g, ys.length, _, rfl, hB, h, Nat.le_refl _, by unfold maxLen; omega, by simp only [List.size_toArray]; exact flat_len ys, ?_⟩⟩
  rw [List.take_of_length_le (by rw [← flat_len ys]; exact Nat.le_refl _)]
end Go.Proofs.YtjnggnhgambmkaaGreat

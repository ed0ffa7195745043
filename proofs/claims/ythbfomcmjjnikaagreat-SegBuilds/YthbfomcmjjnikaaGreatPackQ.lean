import Derived.Test.YthbfomcmjjnikaaGreatRdG
import Derived.Test.YthbfomcmjjnikaaGreatPackS
import Derived.Shelf.SlSortCmp.WholeK
import Derived.Shelf.SlSortCmp.NoneTotal
import Derived.Test.YthbfomcmjjnikaaGreatRyB
set_option linter.unusedSimpArgs false
set_option linter.unusedVariables false
namespace Go.Proofs.YthbfomcmjjnikaaGreat
open Go.RowKit Go.Sort

/-- Where a value is, or would be, among rising ones. -/
def Found (xs : List Val) (t : Val) (e : Ending) : Prop := ∃ (k : Nat) (f : Bool), e = .returned (.tuple #[.int .i64 (k : Int), .bool f]) ∧ k ≤ xs.length ∧ (∀ a x, a < k → xs[a]? = some x → ordV x t < 0) ∧ (∀ a x, k ≤ a → xs[a]? = some x → ¬ ordV x t < 0)

set_option maxHeartbeats 4000000 in
set_option maxRecDepth 100000 in
theorem vsearch_any (aa : Option Addr) (ca : Nat) (xs : List Val) (t : Val) (w : World) (hl : xs.length ≤ 1048576) (ha : RowAt w aa xs)
    (hmono : ∀ (a b : Nat) (x y : Val), a ≤ b → xs[a]? = some x → xs[b]? = some y → ordV y t < 0 → ordV x t < 0) :
    Calls Tryz.prog 144 #[.slice aa xs.length ca, t.v, .func (.func 103) #[] #[]] w fun e w' => Found xs t e ∧ Below w.heap.size w w' := by
  rw [t.open_]
  have HA := hide ha
  have HMO := hide hmono
  clear ha hmono
  go_enter Tryz.func144, Tryz.ntmps144
  go_wp2_with fail
  go_loopw [9, 10] (fun s9 s10 wr => ∃ i j : Nat, s9 = .int .i64 (i : Int) ∧ s10 = .int .i64 (j : Int) ∧ i ≤ j ∧ j ≤ xs.length ∧ Hid (∀ a x, a < i → xs[a]? = some x → ordV x t < 0) ∧ Hid (∀ a x, j ≤ a → xs[a]? = some x → ¬ ordV x t < 0) ∧ wr.rowIs w.heap.size 59 3 (box3 t) ∧ Below w.heap.size w wr) (fun s9 s10 _ => (intOf s10 - intOf s9).toNat)
  case atStart => exact ⟨0, xs.length, rfl, rfl, Nat.zero_le _, Nat.le_refl _, fun a x h => (by omega), fun a x h h2 => (by rw [List.getElem?_eq_none (by omega)] at h2; cases h2), box3_alloc w t, below_alloc (Below.refl _ _) _⟩
  case round =>
    obtain ⟨i, j, rfl, rfl, hij, hjn, HLO, HHI, hrt, hb⟩ := hrel
    by_cases h1 : i < j
    · have i1 : (i : Int) < (j : Int) := by omega
      obtain ⟨h, hh⟩ : ∃ h, h = (i + j) / 2 := ⟨_, rfl⟩
      have eh : ((i : Int) + (j : Int)) / 2 = (h : Int) := by omega
      have hhn : h < xs.length := by omega
      have i2 : (h : Int) < (xs.length : Int) := by omega
      have i3 : (i : Int) + (j : Int) ≤ 2097152 := by omega
      obtain ⟨x, hx⟩ : ∃ x, xs[h]? = some x := ⟨_, List.getElem?_eq_getElem hhn⟩
      rcases (unhide HA).later hb with e | ⟨rb, ro, rfl, hc⟩
      · rw [e] at hx; cases hx
      obtain ⟨c0, c1, c2⟩ := hc h x hx
      obtain ⟨b0, b1, b2, _, _, _⟩ := box3_cells hrt
      have HX := hide hx
      have HO := hide (order_o x t)
      have HRT := hide hrt
      have HB := hide hb
      have hihj : i ≤ h ∧ h < j := by omega
      have HHJ := hide hihj
      obtain ⟨O, hO⟩ : ∃ O, Hid (O = ordV x t) := ⟨_, rfl⟩
      rw [← unhide hO] at HO
      clear hc hx hrt hb hh hihj
      go_upto_region 5 with fail
      go_cut [31] (fun s31 wx => s31 = .bool (decide (O < 0)) ∧ Below wr.heap.size wr wx)
      case first =>
        have k0 := cell_regrown c0
        have k1 := cell_regrown c1
        have k2 := cell_regrown c2
        have k3 := cell_regrown b0
        have k4 := cell_regrown b1
        have k5 := cell_regrown b2
        clear c0 c1 c2 b0 b1 b2
        refine wp_region_quiet_below (by kernel_rfl) (by kernel_rfl) ?_
        repeat (go_big_quiet_step (first
          | (go_at_call 103; exact Calls.regrown_of (unhide HO _))))
        refine wpQuiet_nil ?_
        intro w' hw'
        have hB : Below wr.heap.size wr w' := by obtain ⟨p, rfl⟩ := hw'; exact below_regrown _ _ _
        clear hw'
        go_wp2
        go_meet
        exact ⟨rfl, hB⟩
      case rest =>
        obtain ⟨rfl, hbx⟩ := hcut
        rename World => wx
        have HRX := hide (rowIs_later (unhide HRT) hbx)
        have HBX := hide (below_step (unhide HB) hbx)
        clear hbx c0 c1 c2 b0 b1 b2
        by_cases hO2 : O < 0
        · have e1 : decide (O < 0) = true := decide_eq_true hO2
          rw [e1]
          have HLO2 : Hid (∀ a x, a < h + 1 → xs[a]? = some x → ordV x t < 0) := fun a y ha hy => unhide HMO a h y x (by omega) hy (unhide HX) (by rw [← unhide hO]; exact hO2)
          clear e1
          go_wp2
          go_roundw
          case rel => exact ⟨h + 1, j, by go_num, rfl, by have := unhide HHJ; omega, hjn, HLO2, HHI, unhide HRX, unhide HBX⟩
          case measure => have := unhide HHJ; first | (simp [intOf]; omega) | (simp only [intOf]; omega)
        · have e1 : decide (O < 0) = false := decide_eq_false hO2
          rw [e1]
          have HHI2 : Hid (∀ a x, h ≤ a → xs[a]? = some x → ¬ ordV x t < 0) := fun a y ha hy hlt => hO2 (by rw [unhide hO]; exact unhide HMO h a x y ha (unhide HX) hy hlt)
          clear e1
          go_wp2
          go_roundw
          case rel => exact ⟨i, h, rfl, by go_num, (unhide HHJ).1, by have := unhide HHJ; omega, HLO, HHI2, unhide HRX, unhide HBX⟩
          case measure => have := unhide HHJ; first | (simp [intOf]; omega) | (simp only [intOf]; omega)
    · have i1 : ¬ (i : Int) < (j : Int) := by omega
      have hij' : i = j := by omega
      have HHI2 : Hid (∀ a x, i ≤ a → xs[a]? = some x → ¬ ordV x t < 0) := by rw [hij']; exact HHI
      have hin : i ≤ xs.length := by omega
      obtain ⟨b0, b1, b2, _, _, _⟩ := box3_cells hrt
      have HB := hide hb
      have HRT := hide hrt
      by_cases h2 : i < xs.length
      · have i2 : (i : Int) < (xs.length : Int) := by omega
        obtain ⟨x, hx⟩ : ∃ x, xs[i]? = some x := ⟨_, List.getElem?_eq_getElem h2⟩
        rcases (unhide HA).later hb with e | ⟨rb, ro, rfl, hc⟩
        · rw [e] at hx; cases hx
        obtain ⟨c0, c1, c2⟩ := hc i x hx
        have HO := hide (order_o x t)
        generalize ordV x t = O at HO
        clear hc hx hrt hb hij' HHI
        go_upto_region 8 with fail
        have k0 := cell_regrown c0
        have k1 := cell_regrown c1
        have k2 := cell_regrown c2
        have k3 := cell_regrown b0
        have k4 := cell_regrown b1
        have k5 := cell_regrown b2
        clear c0 c1 c2 b0 b1 b2
        refine wp_region_quiet_below (by kernel_rfl) (by kernel_rfl) ?_
        repeat (go_big_quiet_step (first
          | (go_at_call 103; exact Calls.regrown_of (unhide HO _))))
        refine wpQuiet_nil ?_
        intro w' hw'
        have hB : Below wr.heap.size wr w' := by obtain ⟨p, rfl⟩ := hw'; exact below_regrown _ _ _
        clear hw'
        go_wp2
        refine bodyPost_ret (v := .tuple #[.int .i64 (i : Int), .bool (O == 0)]) (by simp [results, Tryz.results144, go_sem]) rfl ⟨⟨i, _, rfl, hin, unhide HLO, fun a x h1 h2 => by have := unhide HHI2 a x h1 h2; omega⟩, below_step (unhide HB) hB⟩
      · have i2 : ¬ (i : Int) < (xs.length : Int) := by omega
        clear hrt hb hij' HHI
        go_upto_region 8 with fail
        refine wp_region_quiet_below (by kernel_rfl) (by kernel_rfl) ?_
        repeat (go_big_quiet_step (first
          | (go_at_call 103; exact Calls.regrown_of (order_o t t _))))
        refine wpQuiet_nil ?_
        intro w' hw'
        have hB : Below wr.heap.size wr w' := by obtain ⟨p, rfl⟩ := hw'; exact below_regrown _ _ _
        clear hw'
        go_wp2
        refine bodyPost_ret (v := .tuple #[.int .i64 (i : Int), .bool false]) (by simp [results, Tryz.results144, go_sem]) rfl ⟨⟨i, _, rfl, hin, unhide HLO, fun a x h1 h2 => by have := unhide HHI2 a x h1 h2; omega⟩, below_step (unhide HB) hB⟩
end Go.Proofs.YthbfomcmjjnikaaGreat
set_option linter.unusedSimpArgs false
set_option linter.unusedVariables false
namespace Go.Proofs.YthbfomcmjjnikaaGreat
open Go.RowKit Go.Sort Go.Shelf Go.Lib

/-- New blocks and draws alone. -/
def Up (w w' : World) : Prop := Below w.heap.size w w' ∧ w.drawn ≤ w'.drawn
theorem Up.grown {w w' : World} (h : Up w w') : ∃ q os', w' = grow (w.drewN q) os' := by
  obtain ⟨p, hp⟩ := regrown_of_below h.1
  have h2 := h.2
  refine ⟨w'.drawn - w.drawn, p.os, ?_⟩
  rw [hp] at h2 ⊢
  simp only [grow, redrawn, World.drewN] at h2 ⊢
  congr 1
  omega
theorem number_up (n : Int) (w : World) :
    Calls Tryz.prog 75 #[.int .i64 n] w fun e w' => e = .returned (Val.num n).v ∧ Up w w' := by
  unfold Val.v Val.num
  go_enter Tryz.func75, Tryz.ntmps75
  go_wp2
  exact bodyPost_ret (v := .agg #[.int .i64 1, .int .i64 n, .string ⟨#[]⟩]) (by simp [results, Tryz.results75, go_sem]) rfl ⟨rfl, (Below.refl _ _).alloc (Nat.le_refl _) _, Nat.le_refl _⟩
theorem text_up (s : ByteArray) (w : World) :
    Calls Tryz.prog 76 #[.string s] w fun e w' => e = .returned (Val.str s).v ∧ Up w w' := by
  unfold Val.v Val.str
  go_enter Tryz.func76, Tryz.ntmps76
  go_wp2
  exact bodyPost_ret (v := .agg #[.int .i64 2, .int .i64 0, .string s]) (by simp [results, Tryz.results76, go_sem]) rfl ⟨rfl, (Below.refl _ _).alloc (Nat.le_refl _) _, Nat.le_refl _⟩
set_option maxHeartbeats 1000000 in
theorem clean_up (x : Val) (w : World) :
    Calls Tryz.prog 52 #[x.v] w fun e w' => e = .returned (cleanV x).v ∧ Up w w' := by
  rw [x.open_]
  rcases Bool.eq_false_or_eq_true (x.k == 1) with k1 | k1
  · have hv : cleanV x = .num x.n := by simp [cleanV, k1]
    rw [hv]
    clear hv
    go_enter Tryz.func52, Tryz.ntmps52
    go_wp2_with (go_at_call 75; refine (number_up _ _).mono ?_; rintro e w1 ⟨rfl, hb1, hd1⟩; obtain ⟨hc1, hf1⟩ := bcell hb1; rw [Val.open_])
    refine bodyPost_ret (v := (Val.num x.n).v) (by simp [results, Tryz.results52, go_sem, Val.v, Val.num, hc1, hf1]) rfl ⟨rfl, ?_, by simpa using hd1⟩
    (repeat (first | exact Below.refl _ _ | refine Below.alloc ?_ (by simp <;> omega) _ | refine Below.setCell ?_ (by simp <;> omega) _ | refine Below.trans ?_ (Below.mono (by assumption) (by first | omega | (simp; omega)))))
  · rcases Bool.eq_false_or_eq_true (x.k == 2) with k2 | k2
    · have hv : cleanV x = .str x.s := by simp [cleanV, k1, k2]
      rw [hv]
      clear hv
      go_enter Tryz.func52, Tryz.ntmps52
      go_wp2_with (go_at_call 76; refine (text_up _ _).mono ?_; rintro e w1 ⟨rfl, hb1, hd1⟩; obtain ⟨hc1, hf1⟩ := bcell hb1; rw [Val.open_])
      refine bodyPost_ret (v := (Val.str x.s).v) (by simp [results, Tryz.results52, go_sem, Val.v, Val.str, hc1, hf1]) rfl ⟨rfl, ?_, by simpa using hd1⟩
      (repeat (first | exact Below.refl _ _ | refine Below.alloc ?_ (by simp <;> omega) _ | refine Below.setCell ?_ (by simp <;> omega) _ | refine Below.trans ?_ (Below.mono (by assumption) (by first | omega | (simp; omega)))))
    · have hv : cleanV x = .null := by simp [cleanV, k1, k2]
      rw [hv]
      clear hv
      go_enter Tryz.func52, Tryz.ntmps52
      go_wp2
      refine bodyPost_ret (v := Val.null.v) (by simp [results, Tryz.results52, go_sem, Val.v, Val.null]) rfl ⟨rfl, ?_, Nat.le_refl _⟩
      (repeat (first | exact Below.refl _ _ | refine Below.alloc ?_ (by simp <;> omega) _ | refine Below.setCell ?_ (by simp <;> omega) _))

set_option maxHeartbeats 16000000 in
set_option maxRecDepth 100000 in
theorem order_up (a b : Val) (w : World) :
    Calls Tryz.prog 103 #[a.v, b.v] w fun e w' => e = .returned (.int .i64 (ordV a b)) ∧ Up w w' := by
  rw [a.open_, b.open_]
  have HA := hide (clean_up a)
  have HB := hide (clean_up b)
  unfold ordV
  generalize cleanV a = ca at *
  generalize cleanV b = cb at *
  go_enter Tryz.func103, Tryz.ntmps103
  go_upto_region 1 with fail
  go_cut [] (fun wx => BoxAt wx w.heap.size ca ∧ BoxAt wx (w.heap.size + 1) cb ∧ Below w.heap.size w wx ∧ w.drawn ≤ wx.drawn)
  case first =>
    have hd0 : w.drawn ≤ (boxes w a b).drew.drawn := by simp [boxes, World.drew]
    go_region_with (first
      | (go_at_call_of 52 (Value.agg #[Value.int IntKind.i64 a.k, Value.int IntKind.i64 a.n, Value.string a.s]); refine (unhide HA _).mono ?_; rintro e w1 ⟨rfl, hb1, hd1⟩; rw [Val.open_]; have B1 := below_step (boxes_drew w a b) hb1; obtain ⟨⟨a0, a1, a2⟩, ⟨b0, b1, b2⟩, ⟨f0, f1, f2⟩, ⟨g0, g1, g2⟩, hz⟩ := boxes_facts B1)
      | (go_at_call_of 52 (Value.agg #[Value.int IntKind.i64 b.k, Value.int IntKind.i64 b.n, Value.string b.s]); refine (unhide HB _).mono ?_; rintro e w2 ⟨rfl, hb2, hd2⟩; rw [Val.open_]; have B2 := below_step B1 hb2; obtain ⟨⟨a0, a1, a2⟩, ⟨b0, b1, b2⟩, ⟨f0, f1, f2⟩, ⟨g0, g1, g2⟩, hz⟩ := boxes_facts B2))
    all_goals
      go_wp2_with fail
      go_meet
      obtain ⟨q1, q2, q3⟩ := put_two ca cb B2
      refine ⟨q1, q2, q3, ?_⟩
      have hd3 : w.drawn ≤ w1.drawn := Nat.le_trans hd0 hd1
      have hd4 : w.drawn ≤ w2.drawn := Nat.le_trans hd3 hd2
      clear hd0 hd1 hd2 hd3 q1 q2 q3
      rw [World.drawn_setCell, World.drawn_setCell, World.drawn_setCell, World.drawn_setCell, World.drawn_setCell, World.drawn_setCell]; exact hd4
  case rest =>
    obtain ⟨⟨a0, a1, a2⟩, ⟨b0, b1, b2⟩, hbel, hdr⟩ := hcut
    clear HA HB
    rename World => wa
    go_upto_region 2 with fail
    go_region_held3 (fun w' => w'.cell? ⟨w.heap.size, 0, none⟩ = some (.int .i64 ca.k) ∧ w'.cell? ⟨w.heap.size, 1, none⟩ = some (.int .i64 ca.n) ∧ w'.cell? ⟨w.heap.size, 2, none⟩ = some (.string ca.s) ∧ w'.cell? ⟨w.heap.size + 1, 0, none⟩ = some (.int .i64 cb.k) ∧ w'.cell? ⟨w.heap.size + 1, 1, none⟩ = some (.int .i64 cb.n) ∧ w'.cell? ⟨w.heap.size + 1, 2, none⟩ = some (.string cb.s))
      (go_keep)
      (first
        | (go_at_call 123; refine (cmpInt_any _ _ _).mono ?_; rintro e w1 ⟨rfl, rfl⟩)
        | (go_at_call 124; refine (cmpInt64_any _ _ _).mono ?_; rintro e w1 ⟨rfl, rfl⟩)
        | (go_at_call 125; refine (cmpStr_any _ _ _).mono ?_; rintro e w1 ⟨rfl, rfl⟩)
        | (go_at_call 122; refine (or3_any _ (cmpI ca.k cb.k) (cmpI ca.n cb.n) (cmpB ca.s cb.s) _ ?_ ?_ ?_).mono ?_; (simp [go_sem]); (simp [go_sem]); (simp [go_sem]); rintro e w1 ⟨rfl, rfl⟩))
    go_wp2
    go_ret
    exact ⟨rfl, (below_alloc hbel _).drew, by simp [World.drew]; omega⟩
end Go.Proofs.YthbfomcmjjnikaaGreat
set_option linter.unusedSimpArgs false
set_option linter.unusedVariables false
namespace Go.Proofs.YthbfomcmjjnikaaGreat
open Go.RowKit Go.Sort Go.Shelf Go.Lib


instance : Inhabited Val := ⟨Val.null⟩
theorem cmpLays103 (blk off size : Nat) (w : World) : CmpLays Tryz.prog 103 #[] c3 3 ordV blk off size w :=
  fun _ _ _ _ x y => (order_up x y _).mono fun _ _ ⟨he, hu⟩ => ⟨he, hu.grown⟩
theorem ltOf_ord : ltOf ordV = ltV := rfl
theorem flatK_c3 (d : Array Val) : (flatK c3 3 d).toList = d.toList.flatMap c3 := by
  refine List.ext_getElem? fun j => ?_
  by_cases hj : j < d.size * 3
  · have hd : j / 3 < d.size := by omega
    have e1 : (d.toList)[j / 3]? = some d[j / 3]! := by rw [Array.getElem?_toList, getElem!_pos d (j / 3) hd]; exact Array.getElem?_eq_getElem hd
    have := flat_at d.toList (j / 3) (j % 3) _ e1 (by omega)
    rw [show j / 3 * 3 + j % 3 = j by omega] at this
    rw [this]
    simp only [flatK, Array.toList_map, List.getElem?_map]
    rw [Array.getElem?_toList, Array.getElem?_range, if_pos hj]
    simp only [Option.map_some]
    have h3 : j % 3 < (c3 d[j / 3]!).length := by simp [c3]; omega
    rw [getElem!_pos (c3 d[j / 3]!) (j % 3) h3, List.getElem?_eq_getElem h3]
  · rw [List.getElem?_eq_none (by simp [flatK]; omega), List.getElem?_eq_none (by rw [flat_len]; simpa using hj)]
theorem own_holdsK {w : World} {base g cap N : Nat} {xs : List Val} (h : OwnV w base (.slice (some ⟨g, 0, none⟩) N cap) xs) : HoldsK c3 3 w g 0 xs.toArray := by
  intro j hj
  have hN := h.len
  subst hN
  rw [size_flatK] at hj
  have hj' : j < xs.length * 3 := by simpa using hj
  have e1 := flatK_c3 xs.toArray
  refine ⟨?_, ?_⟩
  · rw [Nat.zero_add, World.ownsRow.cellAt h j hj']
    simp only [List.toList_toArray] at e1
    rw [← e1, Array.getElem?_toList, Array.getElem?_eq_getElem (by simpa using hj')]
    rw [getElem!_pos _ _ (by simpa using hj')]
    rfl
  · rw [Nat.zero_add]; exact World.ownsRow.frozenAt h j
theorem own_sorted {w : World} {base g cap N n : Nat} {xs : List Val} {d' : Array Val} {os : Array Obj} (h : OwnV w base (.slice (some ⟨g, 0, none⟩) N cap) xs) (hs : d'.size = xs.length) :
    OwnV (sortWorldK c3 3 w g 0 n d' os) base (.slice (some ⟨g, 0, none⟩) N cap) d'.toList ∧ Grew w (sortWorldK c3 3 w g 0 n d' os) (.slice (some ⟨g, 0, none⟩) N cap) (.slice (some ⟨g, 0, none⟩) N cap) := by
  have hN := h.len
  subst hN
  rcases h.2 with ⟨e, _⟩ | ⟨g', cap', cur, e, hb, hh, hnc, hcm, hcs, htake⟩
  · cases e
  injection e with e1 e2 e3
  injection e1 with e1
  injection e1 with e1
  subst e1 e3
  have hlt : g < w.heap.size := (Array.getElem?_eq_some_iff.1 hh).1
  have hs2 : d'.toList.length = xs.length := by simpa using hs
  have hheap : (sortWorldK c3 3 w g 0 n d' os).heap[g]? = some (.cells (putCells id 0 (flatK c3 3 d') cur) 59 (0, 0)) := by
    unfold sortWorldK grow putRowK putRow mapBlock
    simp only [Sort.ahead]
    rw [Array.getElem?_append_left (by simpa using hlt), Array.getElem?_modify, if_pos rfl, hh]
    rfl
  refine ⟨⟨?_, .inr ⟨g, cap, putCells id 0 (flatK c3 3 d') cur, by rw [hs2], hb, hheap, by rw [hs2]; exact hnc, hcm, by simp [putCells, hcs], ?_⟩⟩, ⟨⟨rfl, rfl, rfl, ?_, ?_⟩, .inl rfl⟩⟩
  · rw [flat_len]
  · rw [← flatK_c3, Array.length_toList]
    refine List.ext_getElem? fun j => ?_
    rw [List.getElem?_take]
    by_cases hj : j < d'.size * 3
    · rw [if_pos hj, Array.getElem?_toList, Array.getElem?_toList]
      have hjc : j < cur.size := by rw [hcs]; omega
      simp only [putCells, Array.getElem?_mapIdx, Array.getElem?_eq_getElem hjc, Option.map_some]
      rw [if_pos ⟨Nat.zero_le _, by rw [size_flatK]; omega⟩, Nat.sub_zero, Array.getElem?_eq_getElem (by rw [size_flatK]; exact hj), getElem!_pos _ _ (by rw [size_flatK]; exact hj)]
      rfl
    · rw [if_neg hj, List.getElem?_eq_none (by rw [Array.length_toList, size_flatK]; omega)]
  · unfold sortWorldK grow putRowK putRow mapBlock
    simp [Sort.ahead]
  · intro k hk hne
    have hkg : g ≠ k := fun e => hne (by rw [e]; rfl)
    unfold sortWorldK grow putRowK putRow mapBlock
    simp only [Sort.ahead]
    rw [Array.getElem?_append_left (by simpa using hk), Array.getElem?_modify, if_neg hkg]

theorem vsort_any (base : Nat) (xs : List Val) (v : Value) (w : World) (hl : xs.length ≤ 1048576) (hown : OwnV w base v xs) :
    Calls Tryz.prog 142 #[v, .func (.func 103) #[] #[]] w fun e w' => e = .returned (.tuple #[]) ∧ ∃ ys, OwnV w' base v ys ∧ Grew w w' v v ∧ ys.Perm xs ∧ Rises ys := by
  rcases hown.2 with ⟨rfl, h0⟩ | ⟨g, cap, cur, rfl, rest⟩
  · have hx : xs = [] := List.eq_nil_of_length_eq_zero h0
    subst hx
    have hcon := AnyF.slices_SortFunc_none Tryz.sortL none 0 (.func (.func 103) #[] #[]) w
    change Calls Tryz.prog 142 _ _ _ at hcon
    refine hcon.mono ?_
    rintro e w' ⟨rfl, rfl⟩
    exact ⟨rfl, [], hown, Grew.refl _ _, List.Perm.refl _, List.Pairwise.nil⟩
  · have eg : ∀ args w, (callFunc 103 args).run Tryz.prog w = .ok (.enter 103 args) w := enters_of Tryz.func103 (by kernel_rfl) rfl
    have hcon := AnyQ.slices_SortFunc Tryz.sortL 3 Tryz.isAgg59 Tryz.sizeOf59 c3 (fun _ => rfl) (fun x v hv => c3_one x v hv) ordV swoV 103 #[] g 0 cap xs.toArray w eg (cmpLays103 g 0 _ w) (own_holdsK hown) (World.ownsRow.lt hown g rfl).2 (by simp; omega)
    change Calls Tryz.prog 142 _ _ _ at hcon
    have e1 : xs.toArray.size = xs.length := by simp
    rw [e1] at hcon
    refine hcon.mono ?_
    rintro e w' ⟨rfl, d', n, os, hp, hs, rfl⟩
    obtain ⟨hp1, hp2, hp3⟩ := hp
    have hsz : d'.size = xs.length := by rw [hp1]; simp
    obtain ⟨q1, q2⟩ := own_sorted (n := n) (os := os) hown hsz
    refine ⟨rfl, d'.toList, q1, q2, ?_, ?_⟩
    · have e2 : d'.extract 0 xs.length = d' := by rw [← hsz]; simp
      have e3 : xs.toArray.extract 0 xs.length = xs.toArray := by rw [← e1]; simp
      rw [e2, e3] at hp3
      simpa using hp3
    · refine List.pairwise_iff_getElem.2 fun i j hi hj hij => ?_
      have hi' : i < d'.size := by simpa using hi
      have hj' : j < d'.size := by simpa using hj
      have := hs i j (Nat.zero_le _) hij (by omega)
      rw [getElem!_pos d' i hi', getElem!_pos d' j hj', ltOf_ord] at this
      simp only [ltV, decide_eq_false_iff_not] at this
      have h2 := ord_anti (d'[i]'hi') (d'[j]'hj')
      simp only [Array.getElem_toList]
      omega
end Go.Proofs.YthbfomcmjjnikaaGreat
set_option linter.unusedSimpArgs false
set_option linter.unusedVariables false
namespace Go.Proofs.YthbfomcmjjnikaaGreat
open Go.RowKit Go.Sort

def marksN (xs : List Val) : List Nat := xs.map fun x => if nullB x then 1 else 0
/-- Whether there are nulls, and where. -/
def nullsL (xs : List Val) : List Int := if xs.any nullB then beL 1 1 1 ++ leB (total 1 (marksN xs)) (bytesN xs.length 1) else beL 0 1 1
def markF (xs : List Val) (k : Nat) (j : Nat) : Value := .int .u64 (if j < k then (((marksN xs)[j]?).getD 0 : Nat) else 0 : Int)

set_option maxHeartbeats 4000000 in
set_option maxRecDepth 100000 in
theorem apnulls_any (base : Nat) (zs : List Int) (aa : Option Addr) (ca : Nat) (xs : List Val) (v : Value) (w : World) (hown : OwnB w base v zs) (hlen : zs.length ≤ 1000000) (hl : xs.length ≤ 4096) (hbase : base ≤ w.heap.size) (ha : RowAt w aa xs) :
    Calls Tryz.prog 113 #[v, .slice aa xs.length ca] w fun e w' => ∃ v', e = .returned v' ∧ OwnB w' base v' (zs ++ nullsL xs) ∧ Grew w w' v v' := by
  obtain ⟨i6, hi6, z60, z61, z62⟩ := info_parts Tryz.info73
  have HC := hide (vcontains_any aa ca xs w (by omega) ha)
  have HOWN := hide hown
  have HA := hide ha
  have hgv : ∀ g, v.ownBlock = some g → g < w.heap.size := fun g hg => (ownB_lt hown hg).2
  have HGV := hide hgv
  clear hown ha hgv
  cases hZ : xs.any nullB
  · have HV : Hid (nullsL xs = beL 0 1 1) := by show _ = _; rw [nullsL, hZ]; rfl
    rw [hZ] at HC
    clear hZ
    have H1 : Hid (∀ W, Below w.heap.size w W → Calls Tryz.prog 112 #[v, .int .u64 0, .int .i64 1] W fun e w' => ∃ v', e = .returned v' ∧ OwnB w' base v' (zs ++ beL 0 1 1) ∧ Grew w w' v v') := fun W hW => by
      refine (appnum_any base zs 0 1 v W (by omega) (own_later (unhide HOWN) hW) (by omega) (by have := hW.size; omega)).mono fun e w' ⟨v', he, h1, h2⟩ => ⟨v', he, h1, (Grew.of_below hW v).trans h2⟩
    go_enter Tryz.func113, Tryz.ntmps113
    go_wp2_with (first
      | (go_at_call 49; refine (unhide HC).mono ?_; rintro e w1 ⟨rfl, hb1⟩)
      | (go_at_call 112; refine (unhide H1 _ hb1).mono ?_; rintro e w2 ⟨v2, rfl, h2, h3⟩))
    go_ret
    exact ⟨_, rfl, by rw [unhide HV]; exact h2, h3⟩
  · have HV : Hid (nullsL xs = beL 1 1 1 ++ leB (total 1 (marksN xs)) (bytesN xs.length 1)) := by show _ = _; rw [nullsL, hZ]; rfl
    rw [hZ] at HC
    clear hZ
    go_enter Tryz.func113, Tryz.ntmps113
    go_wp2_with (first
      | (go_at_call 49; refine (unhide HC).mono ?_; rintro e w1 ⟨rfl, hb1⟩)
      | (at_make; refine wpList_make_row _ rfl (.tmp 14) (.tmp 14) 113 rfl 73 i6 (.int .u64 0) Tryz.underlying113 hi6 z60 z61 rfl .i64 .i64 xs.length rfl rfl (by rw [z62]; omega) (by omega) ?_)
      | fail)
    have HB1 := hide hb1
    have hsz1 := hb1.size
    clear hb1
    go_loopw [18] (fun s wr => ∃ k : Nat, k ≤ xs.length ∧ s = .int .i64 (k : Int) ∧ wr.rowIs w1.heap.size 73 xs.length (markF xs k) ∧ Below w1.heap.size w1 wr) (fun s _ => xs.length - (intOf s).toNat)
    case atStart => exact ⟨0, Nat.zero_le _, rfl, (World.rowIs_made w1 (.int .u64 0) xs.length 73).congr fun j hj => by simp [markF], below_alloc (Below.refl _ _) _⟩
    case round =>
      obtain ⟨k, hk, rfl, hr, hb⟩ := hrel
      by_cases h8 : k < xs.length
      · have h9 : (k : Int) < (xs.length : Int) := by omega
        obtain ⟨x, hx⟩ : ∃ x, xs[k]? = some x := ⟨_, List.getElem?_eq_getElem h8⟩
        have hbw := below_step (unhide HB1) hb
        rcases (unhide HA).later hbw with e | ⟨rb, ro, rfl, hc⟩
        · rw [e] at hx; cases hx
        obtain ⟨c0, c1, c2⟩ := hc k x hx
        have bl := below_alloc (Below.refl _ wr) (.cells #[.int .i64 x.k, .int .i64 x.n, .string x.s] 59)
        have HP := hide (fun W => pnull_any x W)
        have hr2 := hr.alloc (.cells #[.int .i64 x.k, .int .i64 x.n, .string x.s] 59)
        have HR2 := hide hr2
        have HB2 := hide (below_step hb bl)
        have hszr := hb.size
        have hltr := hr.lt
        have HMK : Hid (∀ b : Nat, (marksN xs)[k]? = some b → ∀ j, markF xs (k + 1) j = if j = k then .int .u64 (b : Int) else markF xs k j) := fun b hbb j => by
          unfold markF
          by_cases hj : j = k
          · subst hj; simp [hbb]
          · rw [if_neg hj]
            by_cases hlt : j < k
            · rw [if_pos hlt, if_pos (by omega)]
            · rw [if_neg hlt, if_neg (by omega)]
        have hmk : (marksN xs)[k]? = some (if nullB x then 1 else 0) := by simp [marksN, hx]
        clear hc hx hr hb hr2 hbw bl
        rcases Bool.eq_false_or_eq_true (nullB x) with e1 | e1
        · have e2 : (x.k == 0) = true := e1
          rw [e2] at HP
          rw [e1] at hmk
          have HM := hide (unhide HMK 1 (by simpa using hmk))
          clear hmk
          go_wp2_with (go_at_call 102; refine (unhide HP _).mono ?_; rintro e w3 ⟨rfl, hb3⟩; have hr3 := rowIs_later (unhide HR2) hb3; have cm := hr3.cell h8; have fm := hr3.frozen k; replace hr3 := hide hr3; have HB3 := hide (below_step (unhide HB2) hb3); unfold markF at cm)
          go_roundw
          case rel =>
            refine ⟨k + 1, by omega, by go_num, ((unhide hr3).set k (.int .u64 1)).congr fun j hj => ?_, (unhide HB3).setCell (p := ⟨w1.heap.size, k, none⟩) (Nat.le_refl _) _⟩
            rw [unhide HM j]; rfl
          case measure => first | (simp [intOf]; omega) | (simp only [intOf]; omega)
        · have e2 : (x.k == 0) = false := e1
          rw [e2] at HP
          rw [e1] at hmk
          have HM := hide (unhide HMK 0 (by simpa using hmk))
          clear hmk
          go_wp2_with (go_at_call 102; refine (unhide HP _).mono ?_; rintro e w3 ⟨rfl, hb3⟩; have hr3 := hide (rowIs_later (unhide HR2) hb3); have HB3 := hide (below_step (unhide HB2) hb3))
          go_roundw
          case rel =>
            refine ⟨k + 1, by omega, by go_num, (unhide hr3).congr fun j hj => ?_, unhide HB3⟩
            rw [unhide HM j]
            by_cases h : j = k
            · subst h; rw [if_pos rfl]; simp [markF]
            · rw [if_neg h]
          case measure => first | (simp [intOf]; omega) | (simp only [intOf]; omega)
      · have h9 : ¬ (k : Int) < (xs.length : Int) := by omega
        have hk8 : k = xs.length := by omega
        rw [hk8] at hr
        have hml : (marksN xs).length = xs.length := by simp [marksN]
        have hlis : LisAt wr (some ⟨w1.heap.size, 0, none⟩) ((marksN xs).map fun n : Nat => Value.int .u64 (n : Int)) := by
          refine lis_of_row hr (by simp [marksN]) fun i y hi hy => ?_
          rw [List.getElem?_map] at hy
          obtain ⟨m, hm, rfl⟩ := Option.map_eq_some_iff.1 hy
          simp [markF, hi, hm]
        have hbw := below_step (unhide HB1) hb
        have hltr := hr.lt
        have H1 : Hid (Calls Tryz.prog 112 #[v, .int .u64 1, .int .i64 1] wr fun e w' => ∃ v', e = .returned v' ∧ (OwnB w' base v' (zs ++ beL 1 1 1) ∧ Grew w w' v v' ∧ LisAt w' (some ⟨w1.heap.size, 0, none⟩) ((marksN xs).map fun n : Nat => Value.int .u64 (n : Int)) ∧ v'.ownBlock ≠ some w1.heap.size)) := by
          refine (appnum_any base zs 1 1 v wr (by omega) (own_later (unhide HOWN) hbw) (by omega) (by have := hbw.size; omega)).mono fun e w' ⟨v', he, h1, h2⟩ => ⟨v', he, h1, (Grew.of_below hbw v).trans h2, hlis.grew h2 (fun ad e => ?_), fun e => ?_⟩
          · injection e with e
            subst e
            intro h3
            have := unhide HGV _ h3
            simp at this
            omega
          · rcases h2.2 with h3 | ⟨g, h3, h4⟩
            · rw [e] at h3
              have := unhide HGV _ h3.symm
              omega
            · rw [e] at h3
              injection h3 with h3
              omega
        have H2 : Hid (∀ W v', (OwnB W base v' (zs ++ beL 1 1 1) ∧ Grew w W v v' ∧ LisAt W (some ⟨w1.heap.size, 0, none⟩) ((marksN xs).map fun n : Nat => Value.int .u64 (n : Int)) ∧ v'.ownBlock ≠ some w1.heap.size) → Calls Tryz.prog 139 #[v', .slice (some ⟨w1.heap.size, 0, none⟩) xs.length xs.length, .int .i64 1] W fun e w' => ∃ v3, e = .returned v3 ∧ OwnB w' base v3 ((zs ++ beL 1 1 1) ++ leB (total 1 (marksN xs)) (bytesN xs.length 1)) ∧ Grew w w' v v3) := fun W v' ⟨h1, h2, h3, h4⟩ => by
          have := apbits_any base (zs ++ beL 1 1 1) (some ⟨w1.heap.size, 0, none⟩) xs.length (marksN xs) 1 v' W h1 (by rw [List.length_append, beL_len]; omega) (by omega) (by omega) (fun n hn => by
            obtain ⟨x, _, rfl⟩ := List.mem_map.1 hn
            split <;> decide) (by have := h2.1.size; omega) h3 (fun ad e => by injection e with e; subst e; exact h4)
          rw [hml] at this
          exact this.mono fun e w' ⟨v3, he, h5, h6⟩ => ⟨v3, he, h5, h2.trans h6⟩
        clear hr hb hlis hbw hk8 hml
        go_wp2_with (first
          | (go_at_call 112; refine (unhide H1).mono ?_; rintro e w2 ⟨v2, rfl, h2⟩; replace h2 := hide h2)
          | (go_at_call 139; refine (unhide H2 _ _ (unhide h2)).mono ?_; rintro e w3 ⟨v3, rfl, h5, h6⟩))
        go_ret
        exact ⟨_, rfl, by rw [unhide HV, ← List.append_assoc]; exact h5, h6⟩
end Go.Proofs.YthbfomcmjjnikaaGreat

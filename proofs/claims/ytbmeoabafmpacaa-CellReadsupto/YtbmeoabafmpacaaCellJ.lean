import Derived.Test.YtbmeoabafmpacaaCellI
set_option linter.unusedSimpArgs false
set_option linter.unusedVariables false
namespace Go.Proofs.Ytbmeoabafmpacaa
open Go.RowKit Go.Sort

def addT (t : List Int) (m : Nat) (o : Option (List Int × Nat)) : Option (List Int × Nat) := o.map fun p => (t ++ p.1, m + p.2)
theorem addT_addT (t u : List Int) (m n : Nat) (o : Option (List Int × Nat)) : addT t m (addT u n o) = addT (t ++ u) (m + n) o := by
  cases o with
  | none => rfl
  | some p => simp [addT, List.append_assoc, Nat.add_assoc]
theorem addT_none (t : List Int) (m : Nat) : addT t m none = none := rfl

/-- A text ahead of its end: its bytes, and how many bytes it takes. -/
def firstT : List UInt8 → Option (List Int × Nat)
  | [] => none
  | [_] => none
  | c :: d :: r => if c.toNat = 0 then (if d.toNat = 255 then addT [0] 2 (firstT r) else if d.toNat = 1 then some ([], 2) else none) else addT [(c.toNat : Int)] 1 (firstT (d :: r))

def dropB (s : ByteArray) (k : Nat) : List UInt8 := s.data.toList.drop k
theorem drop_cons (s : ByteArray) (k : Nat) (h : k < s.size) : dropB s k = s[k] :: dropB s (k + 1) := by
  unfold dropB
  rw [List.drop_eq_getElem_cons (by simpa using h)]
  rfl
theorem drop_nil (s : ByteArray) (k : Nat) (h : s.size ≤ k) : dropB s k = [] := by
  unfold dropB
  exact List.drop_eq_nil_of_le (by simpa using h)
theorem ft_end (s : ByteArray) (k : Nat) (h : s.size ≤ k) : firstT (dropB s k) = none := by rw [drop_nil s k h]; rfl
theorem ft_other (s : ByteArray) (k : Nat) (h : k < s.size) (h0 : ¬ (s[k].toNat : Int) = 0) : firstT (dropB s k) = addT [(s[k].toNat : Int)] 1 (firstT (dropB s (k + 1))) := by
  have h0' : ¬ s[k].toNat = 0 := by omega
  rw [drop_cons s k h]
  by_cases h1 : k + 1 < s.size
  · rw [drop_cons s (k + 1) h1, firstT, if_neg h0']
  · rw [drop_nil s (k + 1) (by omega)]; rfl
theorem ft_zero_end (s : ByteArray) (k : Nat) (h : k + 1 = s.size) : firstT (dropB s k) = none := by
  rw [drop_cons s k (by omega), drop_nil s (k + 1) (by omega)]; rfl
theorem ft_zero (s : ByteArray) (k : Nat) (h : k + 1 < s.size) (h0 : (s[k].toNat : Int) = 0) : firstT (dropB s k) = if s[k + 1].toNat = 255 then addT [0] 2 (firstT (dropB s (k + 2))) else if s[k + 1].toNat = 1 then some ([], 2) else none := by
  have h0' : s[k].toNat = 0 := by omega
  rw [drop_cons s k (by omega), drop_cons s (k + 1) h, firstT, if_pos h0']

/-- What 'firstText' and its like hand back. -/
def gotV : Option (Val × Nat) → Value
  | some (x, n) => .tuple #[x.v, .int .i64 n]
  | none => .tuple #[Val.null.v, .int .i64 0]
def textV (o : Option (List Int × Nat)) : Option (Val × Nat) := o.map fun p => (.str (toB p.1), p.2 + 1)

def Z0 (w : World) : World := w.alloc (.cells #[.int .i64 0, .int .i64 0, .string ⟨#[]⟩] 23)
theorem z0_facts {w wr : World} (hb : Below (w.heap.size + 1) (Z0 w) wr) : (wr.cell? ⟨w.heap.size, 0, none⟩ = some (.int .i64 0) ∧ wr.cell? ⟨w.heap.size, 1, none⟩ = some (.int .i64 0) ∧ wr.cell? ⟨w.heap.size, 2, none⟩ = some (.string ⟨#[]⟩)) ∧ (wr.frozen? ⟨w.heap.size, 0, none⟩ = false ∧ wr.frozen? ⟨w.heap.size, 1, none⟩ = false ∧ wr.frozen? ⟨w.heap.size, 2, none⟩ = false) ∧ Below w.heap.size w wr :=
  ⟨⟨(hb.cell (p := ⟨w.heap.size, 0, none⟩) (by simp)).trans (by simp [Z0, go_sem]), (hb.cell (p := ⟨w.heap.size, 1, none⟩) (by simp)).trans (by simp [Z0, go_sem]), (hb.cell (p := ⟨w.heap.size, 2, none⟩) (by simp)).trans (by simp [Z0, go_sem])⟩,
   ⟨(hb.frozen (p := ⟨w.heap.size, 0, none⟩) (by simp)).trans (by simp [Z0, go_sem]), (hb.frozen (p := ⟨w.heap.size, 1, none⟩) (by simp)).trans (by simp [Z0, go_sem]), (hb.frozen (p := ⟨w.heap.size, 2, none⟩) (by simp)).trans (by simp [Z0, go_sem])⟩,
   ((Below.refl _ _).alloc (Nat.le_refl _) _).trans (hb.mono (by omega))⟩
theorem got_none {o : Option (Val × Nat)} (h : o = none) : gotV o = .tuple #[Val.null.v, .int .i64 0] := by rw [h]; rfl

set_option maxHeartbeats 2000000 in
theorem firsttext_any (s : ByteArray) (w : World) (h1 : 1 ≤ s.size) (hs : s.size ≤ 140737488300000) :
    Calls Try.prog 78 #[.string s] w fun e w' => e = .returned (gotV (textV (firstT (dropB s 1)))) ∧ Below w.heap.size w w' := by
  obtain ⟨i0, hi, hz0, hz1, hz2⟩ := info_parts Try.info5
  have hs' : (s.size : Int) ≤ 140737488300000 := by omega
  go_enter Try.func78, Try.ntmps78
  go_wp2_with fail
  go_loopw [4, 5] (fun v i wr => ∃ (k : Nat) (t : List Int), 1 ≤ k ∧ k ≤ s.size ∧ i = .int .i64 k ∧ t.length ≤ k ∧ OwnB wr (w.heap.size + 1) v t ∧ Hid (firstT (dropB s 1) = addT t (k - 1) (firstT (dropB s k))) ∧ Below (w.heap.size + 1) (Z0 w) wr) (fun _ i _ => s.size - (intOf i).toNat)
  case atStart => exact ⟨1, [], by omega, by omega, rfl, by simp, World.ownsRow_nil _ _ _ _, by show _ = _; cases firstT (dropB s 1) <;> simp [addT], Below.refl _ _⟩
  case round =>
    obtain ⟨k, t, hk1, hk2, rfl, ht, ho, HF, hb⟩ := hrel
    by_cases h8 : k < s.size
    · have i1 : (k : Int) < (s.size : Int) := by omega
      by_cases h0 : (s[k].toNat : Int) = 0
      · have h0' : ((s[k].toNat : Int) != 0) = false := by simpa using h0
        by_cases h7 : k + 1 < s.size
        · have HE0 := hide (ft_zero s k h7 h0)
          have i2 : (k : Int) + 1 < (s.size : Int) := by omega
          have i3 : ((k : Int) + 1 == (s.size : Int)) = false := by simp; omega
          by_cases d1 : (s[k + 1].toNat : Int) = 255
          · have d1' : ((s[k + 1].toNat : Int) == 255) = true := by simpa using d1
            have HE : Hid (firstT (dropB s k) = addT [0] 2 (firstT (dropB s (k + 2)))) := by show _ = _; rw [unhide HE0, if_pos (by omega)]
            clear d1 h0 HE0
            go_wp2_with (at_builtin; refine wpList_append_own_at _ rfl (.tmp 34) (.tmp 35) 65 rfl (w.heap.size + 1) 5 i0 (.int .u8 0) 1 1 Try.underlying65 hi hz0 hz1 hz2 rfl (by decide) _ _ _ rfl (World.ownsRow.alloc ho _) ⟨wr.heap.size, 0, none⟩ 1 1 [.int .u8 0] rfl rfl (cell_one_new _ _ _) (by intro u hu; simp at hu; subst hu; rfl) (by unfold maxLen; omega) (by omega) (by have := hb.size; simp [Z0] at this; simp; omega) ?_; intro v1 w1 hown1 hgrow1 _ hat1; have hg1 := Grew.app (Grew.refl wr u4) hgrow1 hat1; have ho1 := ownB_app (news := [0]) rfl hown1; clear hown1 hgrow1 hat1)
            have hb1 : Below (w.heap.size + 1) (Z0 w) w1 := hb.trans (hg1.below (by have := hb.size; simp [Z0] at this; omega) (fun g hg => (ownB_lt ho hg).1))
            have hF : firstT (dropB s 1) = addT (t ++ [0]) (k + 2 - 1) (firstT (dropB s (k + 2))) := by
              rw [unhide HF, unhide HE, addT_addT]
              rw [show k - 1 + 2 = k + 2 - 1 by omega]
            go_roundw
            case rel => exact ⟨k + 2, t ++ [0], by omega, by omega, by go_num, by simp; omega, ho1, hF, hb1⟩
            case measure => simp [intOf]; omega
          · have d1' : ((s[k + 1].toNat : Int) == 255) = false := by simpa using d1
            obtain ⟨⟨f0, f1, f2⟩, ⟨g0, g1, g2⟩, hbw⟩ := z0_facts hb
            by_cases d2 : (s[k + 1].toNat : Int) = 1
            · have d2' : ((s[k + 1].toNat : Int) == 1) = true := by simpa using d2
              have HE : Hid (gotV (textV (firstT (dropB s 1))) = .tuple #[(Val.str (toB t)).v, .int .i64 ((k : Int) + 1 + 1)]) := by
                show _ = _
                rw [unhide HF, unhide HE0, if_neg (by omega), if_pos (by omega)]
                simp only [addT, textV, gotV, Option.map_some, List.append_nil]
                rw [show ((k - 1 + 2 + 1 : Nat) : Int) = (k : Int) + 1 + 1 by omega]
              have hcv := convert_own ho
              clear d1 d2 h0 HE0
              go_wp2_with (go_at_call 39; refine (text_any _ _).mono ?_; rintro e w1 ⟨rfl, hb1⟩; obtain ⟨hc1, hf1⟩ := bcell hb1; rw [Val.open_]; have hz1 : w.heap.size < wr.heap.size := World.block_lt_of_cell? _ _ f0)
              refine bodyPost_ret (v := .tuple #[(Val.str (toB t)).v, .int .i64 ((k : Int) + 1 + 1)]) (by simp [results, Try.results78, go_sem, Val.v, hc1, hf1, hz1, f0, f1, f2]) rfl ⟨by rw [unhide HE], ?_⟩
              exact (((below_step hbw hb1).setCell (by simp) _).setCell (by simp) _).setCell (by simp) _
            · have d2' : ((s[k + 1].toNat : Int) == 1) = false := by simpa using d2
              have HE : Hid (firstT (dropB s 1) = none) := by show _ = _; rw [unhide HF, unhide HE0, if_neg (by omega), if_neg (by omega)]; rfl
              clear d1 d2 h0 HE0
              go_wp2
              refine bodyPost_ret (v := .tuple #[Val.null.v, .int .i64 0]) (by simp [results, Try.results78, go_sem, Val.v, Val.null, f0, f1, f2]) rfl ⟨by rw [unhide HE]; rfl, ?_⟩
              exact ((hbw.setCell (by simp) _).setCell (by simp) _).setCell (by simp) _
        · have HE : Hid (firstT (dropB s 1) = none) := by show _ = _; rw [unhide HF, ft_zero_end s k (by omega)]; rfl
          have i3 : ((k : Int) + 1 == (s.size : Int)) = true := by simp; omega
          obtain ⟨⟨f0, f1, f2⟩, ⟨g0, g1, g2⟩, hbw⟩ := z0_facts hb
          clear h0
          go_wp2
          refine bodyPost_ret (v := .tuple #[Val.null.v, .int .i64 0]) (by simp [results, Try.results78, go_sem, Val.v, Val.null, f0, f1, f2]) rfl ⟨by rw [unhide HE]; rfl, ?_⟩
          exact ((hbw.setCell (by simp) _).setCell (by simp) _).setCell (by simp) _
      · have h0' : ((s[k].toNat : Int) != 0) = true := by simpa using h0
        have HE := hide (ft_other s k h8 h0)
        clear h0
        go_wp2_with (at_builtin; refine wpList_append_own_at _ rfl (.tmp 16) (.tmp 20) 65 rfl (w.heap.size + 1) 5 i0 (.int .u8 0) 1 1 Try.underlying65 hi hz0 hz1 hz2 rfl (by decide) _ _ _ rfl (World.ownsRow.alloc ho _) ⟨wr.heap.size, 0, none⟩ 1 1 [.int .u8 (s[k].toNat : Int)] rfl rfl (cell_one_new _ _ _) (by intro u hu; simp at hu; subst hu; rfl) (by unfold maxLen; omega) (by omega) (by have := hb.size; simp [Z0] at this; simp; omega) ?_; intro v1 w1 hown1 hgrow1 _ hat1; have hg1 := Grew.app (Grew.refl wr u4) hgrow1 hat1; have ho1 := ownB_app (news := [(s[k].toNat : Int)]) rfl hown1; clear hown1 hgrow1 hat1)
        have hb1 : Below (w.heap.size + 1) (Z0 w) w1 := hb.trans (hg1.below (by have := hb.size; simp [Z0] at this; omega) (fun g hg => (ownB_lt ho hg).1))
        have hF : firstT (dropB s 1) = addT (t ++ [(s[k].toNat : Int)]) (k + 1 - 1) (firstT (dropB s (k + 1))) := by
          rw [unhide HF, unhide HE, addT_addT]
          rw [show k - 1 + 1 = k + 1 - 1 by omega]
        go_roundw
        case rel => exact ⟨k + 1, t ++ [(s[k].toNat : Int)], by omega, by omega, by go_num, by simp; omega, ho1, hF, hb1⟩
        case measure => simp [intOf]; omega
    · have hk : k = s.size := by omega
      have i1 : ¬ (k : Int) < (s.size : Int) := by omega
      have HE : Hid (firstT (dropB s 1) = none) := by show _ = _; rw [unhide HF, ft_end s k (by omega)]; rfl
      obtain ⟨⟨f0, f1, f2⟩, ⟨g0, g1, g2⟩, hbw⟩ := z0_facts hb
      clear hk
      go_wp2
      refine bodyPost_ret (v := .tuple #[Val.null.v, .int .i64 0]) (by simp [results, Try.results78, go_sem, Val.v, Val.null, f0, f1, f2]) rfl ⟨by rw [unhide HE]; rfl, ?_⟩
      exact ((hbw.setCell (by simp) _).setCell (by simp) _).setCell (by simp) _


/-- The first value of a key, and how many bytes it takes. -/
def firstV (s : ByteArray) : Option (Val × Nat) :=
  match dropB s 0 with
  | [] => none
  | c :: _ => if c.toNat = 1 then some (.null, 1)
    else if c.toNat = 2 then (if 9 ≤ s.size then some (.num (hor (midB s 8) - 9223372036854775808), 9) else none)
    else if c.toNat = 3 then textV (firstT (dropB s 1)) else none
theorem firstV_eq (s : ByteArray) (h : 0 < s.size) : firstV s = if s[0].toNat = 1 then some (.null, 1)
    else if s[0].toNat = 2 then (if 9 ≤ s.size then some (.num (hor (midB s 8) - 9223372036854775808), 9) else none)
    else if s[0].toNat = 3 then textV (firstT (dropB s 1)) else none := by
  unfold firstV
  rw [drop_cons s 0 h]

theorem gotV_form (o : Option (Val × Nat)) : ∃ x n, gotV o = .tuple #[x.v, .int .i64 (n : Nat)] ∧ (∀ p, o = some p → x = p.1 ∧ n = p.2) ∧ (o = none → x = .null ∧ n = 0) := by
  cases o with
  | none => exact ⟨.null, 0, rfl, (fun p h => by cases h), (fun _ => ⟨rfl, rfl⟩)⟩
  | some p => exact ⟨p.1, p.2, rfl, (fun q h => by cases h; exact ⟨rfl, rfl⟩), (fun h => by cases h)⟩

set_option maxHeartbeats 2000000 in
theorem firstval_any (s : ByteArray) (w : World) (h1 : 0 < s.size) (hs : s.size ≤ 140737488300000) :
    Calls Try.prog 63 #[.string s] w fun e w' => e = .returned (gotV (firstV s)) ∧ Below w.heap.size w w' := by
  have e := firstV_eq s h1
  have i0 : (0 : Int) < (s.size : Int) := by omega
  by_cases c1 : (s[0].toNat : Int) = 1
  · have c1' : ((s[0].toNat : Int) == 1) = true := by simpa using c1
    rw [if_pos (by omega)] at e
    rw [e]
    clear e c1
    go_enter Try.func63, Try.ntmps63
    go_wp2
    exact bodyPost_ret (v := .tuple #[Val.null.v, .int .i64 1]) (by simp [results, Try.results63, go_sem, Val.v, Val.null]) rfl ⟨rfl, by repeat (first | exact Below.refl _ _ | refine Below.alloc ?_ (by simp <;> omega) _ | refine Below.setCell ?_ (by simp <;> omega) _)⟩
  · have c1' : ((s[0].toNat : Int) == 1) = false := by simpa using c1
    rw [if_neg (by omega)] at e
    by_cases c2 : (s[0].toNat : Int) = 2
    · have c2' : ((s[0].toNat : Int) == 2) = true := by simpa using c2
      rw [if_pos (by omega)] at e
      have HC : Hid (∀ w, Calls Try.prog 77 #[.string s] w fun e w' => e = .returned (gotV (firstV s)) ∧ Below w.heap.size w w') := by
        intro w
        rw [e]
        by_cases h9 : 9 ≤ s.size
        · rw [if_pos h9]; exact firstnum_any s w h9 hs
        · rw [if_neg h9]; exact firstnum_no s w (by omega)
      obtain ⟨x, n, hg, _, _⟩ := gotV_form (firstV s)
      rw [hg] at HC ⊢
      clear e c1 c2 hg
      go_enter Try.func63, Try.ntmps63
      go_wp2_with (go_at_call 77; refine (unhide HC _).mono ?_; rintro e w1 ⟨rfl, hb1⟩; obtain ⟨hc1, hf1⟩ := bcell hb1; rw [Val.open_])
      refine bodyPost_ret (v := .tuple #[x.v, .int .i64 n]) (by simp [results, Try.results63, go_sem, Val.v, hc1, hf1]) rfl ⟨rfl, ?_⟩
      exact ((((((Below.refl _ _).alloc (Nat.le_refl _) _).trans (hb1.mono (by simp))).setCell (by simp) _).setCell (by simp) _).setCell (by simp) _)
    · have c2' : ((s[0].toNat : Int) == 2) = false := by simpa using c2
      rw [if_neg (by omega)] at e
      by_cases c3 : (s[0].toNat : Int) = 3
      · have c3' : ((s[0].toNat : Int) == 3) = true := by simpa using c3
        rw [if_pos (by omega)] at e
        have HC : Hid (∀ w, Calls Try.prog 78 #[.string s] w fun e w' => e = .returned (gotV (firstV s)) ∧ Below w.heap.size w w') := by
          intro w
          rw [e]
          exact firsttext_any s w h1 hs
        obtain ⟨x, n, hg, _, _⟩ := gotV_form (firstV s)
        rw [hg] at HC ⊢
        clear e c1 c2 c3 hg
        go_enter Try.func63, Try.ntmps63
        go_wp2_with (go_at_call 78; refine (unhide HC _).mono ?_; rintro e w1 ⟨rfl, hb1⟩; obtain ⟨hc1, hf1⟩ := bcell hb1; rw [Val.open_])
        refine bodyPost_ret (v := .tuple #[x.v, .int .i64 n]) (by simp [results, Try.results63, go_sem, Val.v, hc1, hf1]) rfl ⟨rfl, ?_⟩
        exact ((((((Below.refl _ _).alloc (Nat.le_refl _) _).trans (hb1.mono (by simp))).setCell (by simp) _).setCell (by simp) _).setCell (by simp) _)
      · have c3' : ((s[0].toNat : Int) == 3) = false := by simpa using c3
        rw [if_neg (by omega)] at e
        rw [e]
        clear e c1 c2 c3
        go_enter Try.func63, Try.ntmps63
        go_wp2
        exact bodyPost_ret (v := .tuple #[Val.null.v, .int .i64 0]) (by simp [results, Try.results63, go_sem, Val.v, Val.null]) rfl ⟨rfl, by repeat (first | exact Below.refl _ _ | refine Below.alloc ?_ (by simp <;> omega) _ | refine Below.setCell ?_ (by simp <;> omega) _)⟩

end Go.Proofs.Ytbmeoabafmpacaa

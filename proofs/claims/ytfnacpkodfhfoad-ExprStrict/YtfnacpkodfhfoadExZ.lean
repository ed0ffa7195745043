import Derived.Test.YtfnacpkodfhfoadExY
set_option linter.unusedSimpArgs false
set_option linter.unusedVariables false
namespace Go.Proofs.Ytfnacpkodfhfoad
open Go.RowKit Go.Sort

theorem nullAt_snoc : ∀ (l : List Int) (row : List Val) (c : Int), nullAt row (l ++ [c]) = if 0 ≤ c ∧ c < row.length then (nullAt row l).set c.toNat .null else nullAt row l
  | [], row, c => rfl
  | d :: l, row, c => by
    rw [List.cons_append, nullAt, nullAt_snoc l]
    have : (if 0 ≤ d ∧ d < (row.length : Int) then row.set d.toNat Val.null else row).length = row.length := by split <;> simp
    rw [this]
    rfl
theorem nullAt_take {cols : List Int} {row : List Val} {k : Nat} {c : Int} (h : cols[k]? = some c) : nullAt row (cols.take (k + 1)) = if 0 ≤ c ∧ c < row.length then (nullAt row (cols.take k)).set c.toNat .null else nullAt row (cols.take k) := by
  rw [List.take_add_one, h]
  exact nullAt_snoc _ _ _
theorem gt_fin : gtE.fin := by
  unfold gtE
  simp only [Ex.fin, Ex.fins]
  refine ⟨⟨by decide, by decide, ⟨by decide, by decide⟩, ⟨by decide, by decide⟩⟩, ⟨⟨by decide, by decide, ⟨by decide, by decide⟩, ⟨by decide, by decide⟩⟩, trivial⟩, ⟨⟨by decide, by decide, ⟨by decide, by decide⟩, ⟨by decide, by decide⟩⟩, trivial⟩, trivial⟩
theorem gt_at (wc : World) : Ex.all ((wc.alloc (.cells #[.int .i64 1, .int .i64 0, .int .i64 0, .int .i64 0, .string ⟨#[]⟩, .slice none 0 0, .int .i64 2, .int .i64 0, .int .i64 1, .int .i64 0, .string ⟨#[]⟩, .slice none 0 0] 26)).alloc (.cells #[.int .i64 16, .int .i64 0, .int .i64 0, .int .i64 0, .string ⟨#[]⟩, .slice (some ⟨wc.heap.size, 0, none⟩) 2 2] 26)) (some ⟨wc.heap.size, 0, none⟩) gtE.args := by
  show Ex.all _ _ [.mk 1 0 .null [], .mk 2 0 (.num 0) []]
  simp only [Ex.all]
  refine ⟨_, _, rfl, ?_, _, _, rfl, ?_, trivial⟩
  · rw [Ex.at]
    refine ⟨none, 0, ⟨?_, ?_, ?_, ?_, ?_, ?_⟩, by rw [Ex.all]; trivial⟩ <;> simp [go_sem, Val.null]
  · rw [Ex.at]
    refine ⟨none, 0, ⟨?_, ?_, ?_, ?_, ?_, ?_⟩, by rw [Ex.all]; trivial⟩ <;> simp [go_sem, Val.num]
theorem ints_new (w : World) (x : Int) : IntsAt (w.alloc (.cells #[.int .i64 x] 3)) (some ⟨w.heap.size, 0, none⟩) [x] := by
  refine .inr ⟨_, _, rfl, fun i y hy => ?_⟩
  match i, hy with
  | 0, hy =>
    simp at hy
    subst hy
    simp [go_sem]
/-- Strict of the literal expression, with a new list of one column. -/
theorem gt_one (x : Int) (B : Nat) (W : World) (h : Ex.all W (some ⟨B, 0, none⟩) gtE.args) :
    Calls Try.prog 6 #[.agg #[.int .i64 16, .int .i64 0, .int .i64 0, .int .i64 0, .string ⟨#[]⟩, .slice (some ⟨B, 0, none⟩) 2 2], .slice (some ⟨W.heap.size, 0, none⟩) 1 1] (W.alloc (.cells #[.int .i64 x] 3)) fun r w' => r = .returned (.bool (strictE [x] gtE)) ∧ Below (W.alloc (.cells #[.int .i64 x] 3)).heap.size (W.alloc (.cells #[.int .i64 x] 3)) w' :=
  strict_any [x] gtE gt_fin (by show 1 ≤ 140737488355328; decide) _ 1 _ 2 _ (ints_new W x) (Ex.all_later _ h (below_alloc (Below.refl _ _) _))
theorem OwnV.some {w : World} {base n cap : Nat} {a : Option Addr} {L : List Val} (h : OwnV w base (.slice a n cap) L) (hl : 0 < L.length) : ∃ g, a = some ⟨g, 0, none⟩ ∧ base ≤ g := by
  rcases h.2 with ⟨_, h0⟩ | ⟨g, cap', cur, e, hb, _⟩
  · omega
  · injection e with e
    exact ⟨g, e, hb⟩
set_option maxHeartbeats 400000 in
set_option maxRecDepth 100000 in
theorem law_es (e : Ex) (hf : e.fin) (cols : List Int) (row : List Val) (hv : ∀ x ∈ row, VOk x) (hlc : cols.length ≤ 140737488355328) (hl : row.length ≤ 4398046511104) (a aC aR : Option Addr) (c cC cR : Nat) (w : World) (ha : Ex.all w a e.args) (hC : IntsAt w aC cols) (hr : RowAt w aR row)
    (hn : aR = none → row = [] ∧ cR = 0) :
    Calls Try.prog 3 #[e.val a c, .slice aC cols.length cC, .slice aR row.length cR] w fun r w' => r = .returned (.bool true) ∧ Below w.heap.size w w' := by
  have HA := hide (fun (W : World) (hW : Below w.heap.size w W) => Ex.all_later _ ha hW)
  have HC := hide (fun (W : World) (hW : Below w.heap.size w W) => hC.later hW)
  have HR := hide (fun (W : World) (hW : Below w.heap.size w W) => hr.later hW)
  have HV := hide hv
  have HN := hide hn
  have H6 : Hid (Six (w.alloc (.cells #[.int .i64 e.op, .int .i64 e.n, .int .i64 e.v.k, .int .i64 e.v.n, .string e.v.s, .slice a e.args.length c] 26)) w.heap.size e a c) := Six.new w e a c
  have hBa := below_alloc (Below.refl _ w) (.cells #[.int .i64 e.op, .int .i64 e.n, .int .i64 e.v.k, .int .i64 e.v.n, .string e.v.s, .slice a e.args.length c] 26)
  have hws : (w.alloc (.cells #[.int .i64 e.op, .int .i64 e.n, .int .i64 e.v.k, .int .i64 e.v.n, .string e.v.s, .slice a e.args.length c] 26)).heap.size = w.heap.size + 1 := by simp [go_sem]
  clear ha hC hr hv hn
  rw [Ex.val_open]
  go_enter Try.func3, Try.ntmps3
  go_upto_region 1 with fail
  obtain ⟨wa, hwa⟩ : ∃ wa, wa = w.alloc (.cells #[.int .i64 e.op, .int .i64 e.n, .int .i64 e.v.k, .int .i64 e.v.n, .string e.v.s, .slice a e.args.length c] 26) := ⟨_, rfl⟩
  rw [← hwa] at hBa H6 hws ⊢
  clear hwa
  have HBA := hide hBa
  have HWS := hide hws
  clear hBa hws
  go_cut [7] (fun v wx => ∃ a7 cap, v = .slice a7 row.length cap ∧ Hid (OwnV wx wa.heap.size (.slice a7 row.length cap) row ∧ Below wa.heap.size wa wx))
  case first =>
    have HB1 := hide (below_alloc (Below.refl _ wa) (.cells #[] 23))
    go_wp2_with (at_builtin; refine wpList_copy_row _ rfl (.tmp 11) (.tmp 12) rfl wa.heap.size wa.heap.size rfl (Go.Deep.blk_alloc_new _ _) (Nat.le_refl _) (by simp [go_sem]) aR cR row rfl (unhide HR _ (below_step (unhide HBA) (unhide HB1))) (unhide HN) hl ?_)
    intro v1 w3 hO hB
    obtain ⟨a7, cap, rfl, hr7⟩ := ownV_row hO
    have HO := hide hO
    have HB := hide hB
    clear hO hB hr7
    go_wp2
    go_meet
    exact ⟨a7, cap, rfl, unhide HO, (unhide HB1).trans (unhide HB)⟩
  case rest =>
    obtain ⟨a7, cap, rfl, H7⟩ := hcut
    go_wp2_with fail
    go_loopw [16] (fun i wr => ∃ k : Nat, k ≤ cols.length ∧ i = .int .i64 (k : Int) ∧ Hid (OwnV wr wa.heap.size (.slice a7 row.length cap) (nullAt row (cols.take k)) ∧ Below wa.heap.size wa wr)) (fun i _ => cols.length - (intOf i).toNat)
    case atStart => exact ⟨0, Nat.zero_le _, rfl, (unhide H7).1, (unhide H7).2⟩
    case round =>
      obtain ⟨k, hk, rfl, HI⟩ := hrel
      by_cases hlt : k < cols.length
      · have h9 : (k : Int) < (cols.length : Int) := by omega
        obtain ⟨x, hx⟩ : ∃ x, cols[k]? = some x := ⟨_, List.getElem?_eq_getElem hlt⟩
        obtain ⟨b, off, rfl, c0⟩ := (unhide HC _ (below_step (unhide HBA) (unhide HI).2)).get hx
        have HT := hide (nullAt_take (row := row) hx)
        clear hx
        by_cases hin : 0 ≤ x ∧ x < row.length
        · obtain ⟨j, rfl⟩ : ∃ j : Nat, x = j := ⟨x.toNat, by omega⟩
          rw [if_pos hin] at HT
          obtain ⟨h10, h11⟩ := hin
          have hlen := nullAt_len (cols.take k) row
          obtain ⟨hO, hB⟩ := unhide HI
          obtain ⟨g, rfl, hbg⟩ := hO.some (by omega)
          obtain ⟨y, hy⟩ : ∃ y, (nullAt row (cols.take k))[j]? = some y := ⟨_, List.getElem?_eq_getElem (by omega)⟩
          obtain ⟨f0, f1, f2, f3, f4, f5⟩ := hO.facts hy
          have HP := hide (hO.put (j := j) (by omega) .null)
          rw [Int.toNat_natCast] at HT
          rw [← unhide HT] at HP
          have HB := hide (((hB.setCell (p := ⟨g, j * 3, none⟩) hbg (.int .i64 0)).setCell (p := ⟨g, j * 3 + 1, none⟩) hbg (.int .i64 0)).setCell (p := ⟨g, j * 3 + 2, none⟩) hbg (.string ⟨#[]⟩))
          clear hO hB hy HT HI hlen
          go_wp2
          exact ⟨⟨k + 1, by omega, by go_num, unhide HP, unhide HB⟩, by simp [intOf]; omega⟩
        · rw [if_neg hin] at HT
          have HP := hide (unhide HI).1
          rw [← unhide HT] at HP
          have HB := hide (unhide HI).2
          clear HT HI
          by_cases h0 : 0 ≤ x
          · have h1 : ¬ x < (row.length : Int) := fun h => hin ⟨h0, h⟩
            clear hin
            go_wp2
            exact ⟨⟨k + 1, by omega, by go_num, unhide HP, unhide HB⟩, by simp [intOf]; omega⟩
          · clear hin
            go_wp2
            exact ⟨⟨k + 1, by omega, by go_num, unhide HP, unhide HB⟩, by simp [intOf]; omega⟩
      · have h9 : ¬ (k : Int) < (cols.length : Int) := by omega
        have ek : cols.take k = cols := List.take_of_length_le (by omega)
        rw [ek] at HI
        clear ek
        obtain ⟨c0, c1, c2, c3', c4, c5⟩ := (unhide H6).later (unhide HI).2
        go_upto_region 8 with fail
        have hBw := below_step (unhide HBA) (unhide HI).2
        have HSX := hide ((unhide H6).later (unhide HI).2)
        have HST := hide (strict_any cols e hf hlc aC cC a c wr (unhide HC _ hBw) (unhide HA _ hBw))
        obtain ⟨a8, cap8, e8, hr8⟩ := ownV_row (unhide HI).1
        injection e8 with e81 e82 e83
        subst e81 e83
        have hlr := nullAt_len cols row
        have HEV := hide (fun (W : World) (hW : Below wr.heap.size wr W) => evals_any e hf (nullAt row cols) (nullAt_ok cols row (unhide HV)) (by omega) a a7 c cap W (unhide HA _ (below_step hBw hW)) (hr8.later hW))
        rw [hlr] at HEV
        have HTR := hide (true_any (evalB (nullAt row cols) e))
        have HLW := hide (strict_law cols row e)
        rw [Ex.val_open] at HST HEV
        have HBW := hide hBw
        clear hlr hr8 e82 hBw HI H7
        generalize evalB (nullAt row cols) e = ev at *
        go_cut [41] (fun s wx => s = .bool false ∧ Hid (Below w.heap.size w wx))
        case first =>
          cases hs : strictE cols e with
          | false =>
            rw [hs] at HST
            clear hs HLW
            go_wp2_with (go_at_call 6; refine (unhide HST).mono ?_; rintro r w1 ⟨rfl, hb1⟩)
            go_meet
            exact ⟨rfl, below_step (unhide HBW) hb1⟩
          | true =>
            rw [hs] at HST
            rw [unhide HLW hs] at HTR
            clear hs HLW
            rw [Val.open_] at HTR
            go_wp2_with (first
              | (go_at_call 6; refine (unhide HST).mono ?_; rintro r w1 ⟨rfl, hb1⟩; obtain ⟨b0, b1, b2, b3, b4, b5⟩ := (unhide HSX).later hb1)
              | (go_at_call 8; refine (unhide HEV _ hb1).mono ?_; rintro r w2 ⟨rfl, hb2⟩; rw [Val.open_])
              | (go_at_call 7; refine (unhide HTR _).mono ?_; rintro r w3 ⟨rfl, hb3⟩))
            go_meet
            exact ⟨rfl, below_step (below_step (below_step (unhide HBW) hb1) hb2) hb3⟩
        case rest =>
          obtain ⟨rfl, HBX⟩ := hcut
          clear c0 c1 c2 c3' c4 c5
          have HB2 : Hid (Below wc.heap.size wc ((wc.alloc (.cells #[.int .i64 1, .int .i64 0, .int .i64 0, .int .i64 0, .string ⟨#[]⟩, .slice none 0 0, .int .i64 2, .int .i64 0, .int .i64 1, .int .i64 0, .string ⟨#[]⟩, .slice none 0 0] 26)).alloc (.cells #[.int .i64 16, .int .i64 0, .int .i64 0, .int .i64 0, .string ⟨#[]⟩, .slice (some ⟨wc.heap.size, 0, none⟩) 2 2] 26))) := below_alloc (below_alloc (Below.refl _ wc) _) _
          have HGA := hide (gt_at wc)
          have H1 := hide (gt_one 0 wc.heap.size ((wc.alloc (.cells #[.int .i64 1, .int .i64 0, .int .i64 0, .int .i64 0, .string ⟨#[]⟩, .slice none 0 0, .int .i64 2, .int .i64 0, .int .i64 1, .int .i64 0, .string ⟨#[]⟩, .slice none 0 0] 26)).alloc (.cells #[.int .i64 16, .int .i64 0, .int .i64 0, .int .i64 0, .string ⟨#[]⟩, .slice (some ⟨wc.heap.size, 0, none⟩) 2 2] 26)) (unhide HGA))
          have hsz : ((wc.alloc (.cells #[.int .i64 1, .int .i64 0, .int .i64 0, .int .i64 0, .string ⟨#[]⟩, .slice none 0 0, .int .i64 2, .int .i64 0, .int .i64 1, .int .i64 0, .string ⟨#[]⟩, .slice none 0 0] 26)).alloc (.cells #[.int .i64 16, .int .i64 0, .int .i64 0, .int .i64 0, .string ⟨#[]⟩, .slice (some ⟨wc.heap.size, 0, none⟩) 2 2] 26)).heap.size = wc.heap.size + 1 + 1 := by simp [go_sem]
          rw [gt_yes, hsz] at H1
          clear hsz
          have HSG : Hid (Six ((wc.alloc (.cells #[.int .i64 1, .int .i64 0, .int .i64 0, .int .i64 0, .string ⟨#[]⟩, .slice none 0 0, .int .i64 2, .int .i64 0, .int .i64 1, .int .i64 0, .string ⟨#[]⟩, .slice none 0 0] 26)).alloc (.cells #[.int .i64 16, .int .i64 0, .int .i64 0, .int .i64 0, .string ⟨#[]⟩, .slice (some ⟨wc.heap.size, 0, none⟩) 2 2] 26)) (wc.heap.size + 1) gtE (some ⟨wc.heap.size, 0, none⟩) 2) := by
            refine ⟨?_, ?_, ?_, ?_, ?_, ?_⟩ <;> simp [go_sem, gtE, Ex.op, Ex.n, Ex.v, Ex.args, Val.null]
          clear HST HEV HTR HLW HSX
          go_upto_region 11 with fail
          go_wp2_with (first
            | (go_at_call 6; refine (unhide H2).mono ?_; rintro r w2 ⟨rfl, hb2⟩)
            | (go_at_call 6; refine (unhide H1).mono ?_; rintro r w1 ⟨rfl, hb1⟩; have hB1 := below_step (below_alloc (Below.refl _ ((wc.alloc (.cells #[.int .i64 1, .int .i64 0, .int .i64 0, .int .i64 0, .string ⟨#[]⟩, .slice none 0 0, .int .i64 2, .int .i64 0, .int .i64 1, .int .i64 0, .string ⟨#[]⟩, .slice none 0 0] 26)).alloc (.cells #[.int .i64 16, .int .i64 0, .int .i64 0, .int .i64 0, .string ⟨#[]⟩, .slice (some ⟨wc.heap.size, 0, none⟩) 2 2] 26))) _) hb1; have H2 := hide (gt_one 1 wc.heap.size w1 (Ex.all_later _ (unhide HGA) hB1)); rw [gt_no] at H2; obtain ⟨b0, b1, b2, b3, b4, b5⟩ := (unhide HSG).later hB1))
          go_ret
          exact ⟨rfl, below_step (below_step (below_step (below_step (unhide HBX) (unhide HB2)) hB1) (below_alloc (Below.refl _ _) _)) hb2⟩
end Go.Proofs.Ytfnacpkodfhfoad

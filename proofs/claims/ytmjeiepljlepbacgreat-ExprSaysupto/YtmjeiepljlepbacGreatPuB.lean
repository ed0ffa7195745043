import Derived.Test.YtmjeiepljlepbacGreatFoD
import Derived.Test.YtmjeiepljlepbacGreatPaG
import Derived.Maps.AppendAt
import Derived.Laws.AppendOwnNone
import Derived.Test.YtmjeiepljlepbacGreatFoG
set_option linter.unusedSimpArgs false
set_option linter.unusedVariables false
set_option maxRecDepth 100000
namespace Go.Proofs.YtmjeiepljlepbacGreat
open Go.RowKit Go.Sort

theorem info3 : (Tryz.prog.info? 3).map (fun i => (i.zero, i.size, i.bytes)) = some (some (.int .i64 0), 1, 8) := by kernel_rfl
/-- The slice of numbers v, a row of the call's own, holds xs. -/
def OwnI (w : World) (base : Nat) (v : Value) (xs : List Int) : Prop := w.ownsRow base 3 1 v xs.length (xs.map (.int .i64))
theorem OwnI.later {w w1 : World} {base : Nat} {v : Value} {xs : List Int} (h : OwnI w base v xs) (hb : Below w.heap.size w w1) : OwnI w1 base v xs := own_later h hb
theorem OwnI.slice {w : World} {base : Nat} {v : Value} {L : List Int} (h : OwnI w base v L) : ∃ a cap, v = .slice a L.length cap := by
  rcases h.2 with ⟨rfl, h0⟩ | ⟨g, cap, cur, rfl, _⟩
  · have : L = [] := List.eq_nil_of_length_eq_zero h0
    subst this
    exact ⟨none, 0, rfl⟩
  · exact ⟨_, cap, rfl⟩
theorem OwnI.ints {w : World} {base : Nat} {a : Option Addr} {n cap : Nat} {L : List Int} (h : OwnI w base (.slice a n cap) L) : IntsAt w a L := by
  rcases h.2 with ⟨e, h0⟩ | ⟨g, cap', cur, e, _⟩
  · have : L = [] := List.eq_nil_of_length_eq_zero h0
    exact .inl this
  · injection e with e1 e2 e3
    subst e1
    refine .inr ⟨g, 0, rfl, fun i x hx => ?_⟩
    subst e3
    have hc := World.ownsRow.cells h rfl i (.int .i64 x) (by rw [List.getElem?_map, hx]; rfl)
    have ea : (⟨g, 0, none⟩ : Addr).add i = ⟨g, 0 + i, none⟩ := by
      by_cases h : i = 0 <;> simp [Addr.add, h]
    rw [ea] at hc
    exact hc
theorem ints_one (xs : List Int) : ∀ u ∈ xs.map (Value.int .i64), u.oneCell' = true := by
  intro u hu
  obtain ⟨x, _, rfl⟩ := List.mem_map.1 hu
  rfl
theorem OwnI.base_le {w : World} {base base' : Nat} {v : Value} {L : List Int} (h : OwnI w base v L) (hb : base' ≤ base) : OwnI w base' v L := by
  obtain ⟨h1, h2⟩ := h
  refine ⟨h1, ?_⟩
  rcases h2 with h2 | ⟨g, cap, cur, q1, q2, q3⟩
  · exact .inl h2
  · exact .inr ⟨g, cap, cur, q1, by omega, q3⟩
mutual
theorem cols_size : ∀ e : Ex, (colsE e).length ≤ e.size
  | .mk op n v l => by
    have := colsL_size l
    rw [colsE, List.length_append, Ex.size]
    split
    · show 1 + _ ≤ _; omega
    · show 0 + _ ≤ _; omega
theorem colsL_size : ∀ l : List Ex, (colsL l).length ≤ Ex.sizes l
  | [] => by rw [colsL]; exact Nat.zero_le _
  | e :: l => by
    have h1 := cols_size e
    have h2 := colsL_size l
    rw [colsL, List.length_append, Ex.sizes]
    omega
end
theorem own_ge {w : World} {base : Nat} {v : Value} {L : List Int} (h : OwnI w base v L) : ∀ g, v.ownBlock = some g → base ≤ g := by
  intro g hg
  rcases h.2 with ⟨rfl, _⟩ | ⟨g', cap, cur, rfl, hb, _⟩
  · cases hg
  · simp [Value.ownBlock] at hg
    omega
theorem wpList_append_ints {ops : Array Oper} {rest : List Oper} {o : Oper} {a : Act} {Q : Exit → Act → World → Prop} (w : World) (hgd : o.guard = none) (s x : Operand) (ho : o.op = .call { callee := .builtin .append, args := #[s, x], argTypes := #[23, 23] })
    (base base2 : Nat) (v u : Value) (L1 L2 : List Int) (hs : a.eval s = v) (hown : OwnI w base v L1) (hx : a.eval x = u) (hown2 : OwnI w base2 u L2) (hl : L1.length + L2.length ≤ 1000000) (hbase : base ≤ w.heap.size)
    (h : ∀ v' w', OwnI w' base v' (L1 ++ L2) → Below base w w' → wpList Tryz.prog ops Q rest (a.put o.dst v') w') : wpList Tryz.prog ops Q (o :: rest) a w := by
  obtain ⟨i4, hi4, z40, z41, z42⟩ := info_parts info3
  rcases hown2.2 with ⟨rfl, h0⟩ | ⟨g, cap, cur, rfl, _⟩
  · have : L2 = [] := List.eq_nil_of_length_eq_zero h0
    subst this
    exact wpList_append_own_none hgd s x 23 ho base 3 i4 1 Tryz.underlying23 hi4 v L1.length _ hs hown hx (h v w (by rw [List.append_nil]; exact hown) (Below.refl _ _))
  · refine wpList_append_own_at w hgd s x 23 ho base 3 i4 (.int .i64 0) 1 8 Tryz.underlying23 hi4 z40 z41 z42 rfl (by decide) v L1.length (L1.map (.int .i64)) hs hown ⟨g, 0, none⟩ L2.length cap (L2.map (.int .i64)) hx (by simp) (World.ownsRow.cells hown2 rfl) (ints_one L2) (by unfold maxLen; omega) (by omega) hbase ?_
    intro v' w' h1 h2 _ _
    refine h v' w' ?_ (grown_below h2 hbase (own_ge hown))
    unfold OwnI
    rw [List.length_append, List.map_append]
    exact h1
theorem own_nil (w : World) (base : Nat) : OwnI w base (.slice none 0 0) [] := World.ownsRow_nil _ _ _ _
theorem colsL_take {l : List Ex} {k : Nat} {x : Ex} (h : l[k]? = some x) : colsL (l.take (k + 1)) = colsL (l.take k) ++ colsE x := by
  have key : ∀ (l m : List Ex), colsL (l ++ m) = colsL l ++ colsL m := by
    intro l m
    induction l with
    | nil => rw [List.nil_append, colsL, List.nil_append]
    | cons y l ih => rw [List.cons_append, colsL, colsL, ih, List.append_assoc]
  rw [List.take_add_one, h, key]
  show _ ++ colsL [x] = _
  rw [colsL, colsL, List.append_nil]
theorem colsL_take_le (l : List Ex) (k : Nat) : (colsL (l.take k)).length ≤ Ex.sizes l := by
  induction l generalizing k with
  | nil => simp [colsL]
  | cons y l ih =>
    cases k with
    | zero => simp [colsL]
    | succ k =>
      rw [List.take_succ_cons, colsL, List.length_append, Ex.sizes]
      have := ih k
      have := cols_size y
      omega
theorem own_single (W : World) (base : Nat) (hb : base ≤ W.heap.size) (n : Int) : OwnI (W.alloc (.cells #[.int .i64 n] 3)) base (.slice (some ⟨W.heap.size, 0, none⟩) 1 1) [n] :=
  ⟨rfl, .inr ⟨W.heap.size, 1, _, rfl, hb, Go.Deep.blk_alloc_new _ _, Nat.le_refl _, by unfold maxLen; omega, rfl, rfl⟩⟩
set_option maxHeartbeats 1000000 in
set_option maxRecDepth 100000 in
theorem columns_step (e : Ex) (hg : goodE e) (hf : e.fin) (hsz : e.size ≤ 400) (a : Option Addr) (c : Nat) (w : World) (ha : Ex.all w a e.args)
    (IH : ∀ (i : Nat) (x : Ex), e.args[i]? = some x → ∀ (a' : Option Addr) (c' : Nat) (W : World), Ex.all W a' x.args → Calls Tryz.prog 74 #[x.val a' c'] W fun r w' => ∃ v, r = .returned v ∧ OwnI w' W.heap.size v (colsE x) ∧ Below W.heap.size W w') :
    Calls Tryz.prog 74 #[e.val a c] w fun r w' => ∃ v, r = .returned v ∧ OwnI w' w.heap.size v (colsE e) ∧ Below w.heap.size w w' := by
  have HIH := hide IH
  have HAL := hide ha
  have hBa := below_alloc (Below.refl _ w) (.cells #[.int .i64 e.op, .int .i64 e.n, .int .i64 e.v.k, .int .i64 e.v.n, .string e.v.s, .slice a e.args.length c] 59)
  have HCE := hide (colsE_eq e)
  have HL : Hid (Ex.sizes e.args ≤ 399) := by show _ ≤ _; rw [Ex.size_mk] at hsz; omega
  have hlen := (Ex.fin_open hf).1.1
  rw [Ex.val_open]
  clear IH ha
  by_cases h1 : e.op = 1
  · have hl0 : e.args.length = 0 := by rw [col_args hg h1]; rfl
    have hce : colsE e = [e.n] := by rw [colsE_eq, h1, col_args hg h1, colsL]; rfl
    have HCE2 := hide hce
    rw [h1, hl0]
    rw [h1, hl0] at hBa
    have HS := hide (own_single (w.alloc (.cells #[.int .i64 1, .int .i64 e.n, .int .i64 e.v.k, .int .i64 e.v.n, .string e.v.s, .slice a 0 c] 59)) w.heap.size hBa.size e.n)
    rw [show (w.alloc (.cells #[.int .i64 1, .int .i64 e.n, .int .i64 e.v.k, .int .i64 e.v.n, .string e.v.s, .slice a 0 c] 59)).heap.size = w.heap.size + 1 by simp [go_sem]] at HS
    have HB2 := hide (below_alloc hBa (.cells #[.int .i64 e.n] 3))
    have HSX : Hid (((w.alloc (.cells #[.int .i64 1, .int .i64 e.n, .int .i64 e.v.k, .int .i64 e.v.n, .string e.v.s, .slice a 0 c] 59)).alloc (.cells #[.int .i64 e.n] 3)).cell? ⟨w.heap.size, 5, none⟩ = some (.slice a 0 c)) := by show _ = _; simp [go_sem]
    clear hce HCE hl0
    go_enter Tryz.func74, Tryz.ntmps74
    go_wp2_with (at_builtin; go_loud (refine wpList_append_ints _ rfl (.tmp 9) (.tmp 12) rfl (w.heap.size + 1) w.heap.size (.slice none 0 0) (.slice (some ⟨w.heap.size + 1, 0, none⟩) 1 1) [] [e.n] rfl (own_nil _ _) rfl (unhide HS) (by simp) (by simp [go_sem]) ?_); intro v4 w4 hO4 hb4; have c5 : w4.cell? ⟨w.heap.size, 5, none⟩ = some (.slice a 0 c) := by rw [hb4.cell (p := ⟨w.heap.size, 5, none⟩) (by show w.heap.size < w.heap.size + 1; omega)]; exact unhide HSX)
    have HO4 : Hid (OwnI w4 w.heap.size v4 [e.n]) := hO4.base_le (base' := w.heap.size) (by omega)
    have HB4 := hide ((unhide HB2).trans (hb4.mono (by omega : w.heap.size ≤ w.heap.size + 1)))
    clear hO4 hb4
    obtain ⟨a4, cap4, rfl⟩ := (unhide HO4).slice
    go_loopw [3, 17] (fun s3 i wr => s3 = .slice a4 [e.n].length cap4 ∧ i = .int .i64 0 ∧ wr = w4) (fun _ _ _ => 0)
    case atStart => exact ⟨rfl, rfl, rfl⟩
    case round =>
      obtain ⟨rfl, rfl, rfl⟩ := hrel
      go_wp2
      go_ret
      exact ⟨_, rfl, by rw [unhide HCE2]; exact unhide HO4, unhide HB4⟩
  · have e1 : (e.op == 1) = false := by simpa using h1
    rw [e1] at HCE
    simp only [Bool.false_eq_true, if_false, List.nil_append] at HCE
    have HE1 := hide e1
    obtain ⟨wa, hwa⟩ : ∃ wa, wa = w.alloc (.cells #[.int .i64 e.op, .int .i64 e.n, .int .i64 e.v.k, .int .i64 e.v.n, .string e.v.s, .slice a e.args.length c] 59) := ⟨_, rfl⟩
    have HBA : Hid (Below w.heap.size w wa) := by rw [hwa]; exact hBa
    go_enter Tryz.func74, Tryz.ntmps74
    go_wp2
    rw [← hwa]
    try rw [unhide HE1]
    clear hBa hwa
    go_loopw [3, 17] (fun s3 i wr => ∃ (k : Nat) (v3 : Value), k ≤ e.args.length ∧ i = .int .i64 (k : Int) ∧ s3 = v3 ∧ Hid (OwnI wr w.heap.size v3 (colsL (e.args.take k)) ∧ Below w.heap.size w wr)) (fun _ i _ => e.args.length - (intOf i).toNat)
    case atStart => exact ⟨0, _, Nat.zero_le _, rfl, rfl, by show OwnI _ _ _ (colsL []); rw [colsL]; exact own_nil _ _, unhide HBA⟩
    case round =>
      obtain ⟨k, v3', hk, rfl, rfl, HI⟩ := hrel
      obtain ⟨hO, hB⟩ := unhide HI
      obtain ⟨a3, cap3, rfl⟩ := hO.slice
      by_cases hlt : k < e.args.length
      · have h9 : (k : Int) < (e.args.length : Int) := by omega
        obtain ⟨x, hx⟩ : ∃ x, e.args[k]? = some x := ⟨_, List.getElem?_eq_getElem hlt⟩
        obtain ⟨vb, vo, ea, hat⟩ := Ex.all_get (Ex.all_later _ (unhide HAL) hB) hx
        obtain ⟨a', c', ⟨d0, d1, d2, d3, d4, d5⟩, hal⟩ := Ex.at_open hat
        have HC := hide (unhide HIH k x hx a' c' (wr.alloc (.cells #[.int .i64 x.op, .int .i64 x.n, .int .i64 x.v.k, .int .i64 x.v.n, .string x.v.s, .slice a' x.args.length c'] 59)) (Ex.all_later _ hal (below_alloc (Below.refl _ _) _)))
        rw [Ex.val_open] at HC
        have HTK := hide (colsL_take hx)
        have hcl : (colsL (e.args.take (k + 1))).length ≤ 399 := Nat.le_trans (colsL_take_le _ _) (unhide HL)
        rw [unhide HTK, List.length_append] at hcl
        have HBW := hide (below_alloc (Below.refl _ wr) (.cells #[.int .i64 x.op, .int .i64 x.n, .int .i64 x.v.k, .int .i64 x.v.n, .string x.v.s, .slice a' x.args.length c'] 59))
        have HBr := hide hB
        have HOr := hide hO
        subst ea
        clear hx hat hal hO hB HI
        go_wp2_with (first
          | (go_at_call 74; refine (unhide HC).mono ?_; rintro r w3 ⟨v3, rfl, hO3, hb3⟩; have hb13 := below_step (unhide HBW) hb3; have HO3 := hide hO3; have HO1 := hide ((unhide HOr).later hb13); clear hO3)
          | (at_builtin; refine wpList_append_ints w3 rfl (.tmp 21) (.tmp 23) rfl w.heap.size _ (.slice a3 (colsL (e.args.take k)).length cap3) v3 _ _ rfl (unhide HO1) rfl (unhide HO3) (by omega) (below_step (unhide HBr) hb13).size ?_; intro v4 w4 hO4 hb4; have HO4 := hide hO4; clear hO4))
        refine ⟨⟨k + 1, v4, by omega, by go_num, rfl, ?_, (unhide HBr).trans ((hb13.mono (unhide HBr).size).trans hb4)⟩, by simp [intOf]; omega⟩
        rw [unhide HTK]
        exact unhide HO4
      · have h9 : ¬ (k : Int) < (e.args.length : Int) := by omega
        have HOr : Hid (OwnI wr w.heap.size (.slice a3 (colsL (e.args.take k)).length cap3) (colsE e)) := by
          show OwnI _ _ _ _
          rw [unhide HCE, show colsL e.args = colsL (e.args.take k) by rw [List.take_of_length_le (by omega)]]
          exact hO
        have HBr := hide hB
        clear hO hB HI
        go_wp2
        go_ret
        exact ⟨_, rfl, unhide HOr, unhide HBr⟩
theorem columns_all : ∀ (k : Nat) (e : Ex), e.size ≤ k → goodE e → e.fin → e.size ≤ 400 → ∀ (a : Option Addr) (c : Nat) (w : World), Ex.all w a e.args →
    Calls Tryz.prog 74 #[e.val a c] w fun r w' => ∃ v, r = .returned v ∧ OwnI w' w.heap.size v (colsE e) ∧ Below w.heap.size w w'
  | 0, e, hs, _, _, _, _, _, _, _ => by rw [Ex.size_mk] at hs; omega
  | k + 1, e, hs, hg, hf, h4, a, c, w, ha => columns_step e hg hf h4 a c w ha fun i x hx a' c' W hW =>
    columns_all k x (by have := Ex.size_arg hx; omega) (good_arg hg hx) (Ex.fin_arg hf hx) (by have := Ex.size_arg hx; omega) a' c' W hW
end Go.Proofs.YtmjeiepljlepbacGreat
set_option linter.unusedSimpArgs false
set_option linter.unusedVariables false
set_option maxRecDepth 100000
namespace Go.Proofs.YtmjeiepljlepbacGreat
open Go.RowKit Go.Sort

set_option maxHeartbeats 1000000 in
set_option maxRecDepth 100000 in
theorem simp_if (e : Ex) (hf : e.fin) (hc : e.args.any notConst = true) (h21 : e.op = 21) (x y z : Ex) (hxy : e.args = [x, y, z]) (a : Option Addr) (c : Nat) (lo : Nat) (w : World) (hK : ExK lo w a e.args) : Calls Tryz.prog 83 #[e.val a c] w (SimpOk e lo w) := by
  have hse : simpE e = if x.op == 2 then (if isTrueE x then y else z) else e := by
    unfold simpE
    rw [hc, h21, hxy]
    simp
  obtain ⟨⟨hlen, _, _, _⟩, hfl⟩ := Ex.fin_open hf
  have ha := hK.now
  have HC := hide (fun (W : World) (hW : Below w.heap.size w W) => containsE_any (.func (.func 121) #[] #[]) notConst a c e.args W hlen hfl (Ex.all_later _ ha hW) (test_const W))
  obtain ⟨vb, vo, rfl, _⟩ := Ex.all_get ha (i := 0) (e := x) (by rw [hxy]; rfl)
  obtain ⟨ax, cx, hcx, hkx⟩ := child_at hK (i := 0) (x := x) (by rw [hxy]; rfl)
  have HCX : Hid (∀ W, Below w.heap.size w W → Cells6 W vb vo (x, ax, cx)) := fun W hW => by
    rw [Nat.zero_mul, Nat.add_zero] at hcx
    obtain ⟨d0, d1, d2, d3, d4, d5⟩ := hcx
    exact ⟨clater d0 hW, clater d1 hW, clater d2 hW, clater d3 hW, clater d4 hW, clater d5 hW⟩
  have HKX := hide hkx
  obtain ⟨ay, cy, hcy, hky⟩ := child_at hK (i := 1) (x := y) (by rw [hxy]; rfl)
  have HCY : Hid (∀ W, Below w.heap.size w W → Cells6 W vb (vo + 6) (y, ay, cy)) := fun W hW => by
    rw [Nat.one_mul] at hcy
    obtain ⟨d0, d1, d2, d3, d4, d5⟩ := hcy
    exact ⟨clater d0 hW, clater d1 hW, clater d2 hW, clater d3 hW, clater d4 hW, clater d5 hW⟩
  have HKY := hide hky
  obtain ⟨az, cz, hcz, hkz⟩ := child_at hK (i := 2) (x := z) (by rw [hxy]; rfl)
  have HCZ : Hid (∀ W, Below w.heap.size w W → Cells6 W vb (vo + 12) (z, az, cz)) := fun W hW => by
    rw [show 2 * 6 = 12 by omega] at hcz
    obtain ⟨d0, d1, d2, d3, d4, d5⟩ := hcz
    exact ⟨clater d0 hW, clater d1 hW, clater d2 hW, clater d3 hW, clater d4 hW, clater d5 hW⟩
  have HKZ := hide hkz
  have HT := hide (fun W => istrue_any x ax cx W)
  have HV := hide hse
  have HK := hide hK
  have HB0 : Hid (Below w.heap.size w ((w.alloc (.cells #[.int .i64 e.op, .int .i64 e.n, .int .i64 e.v.k, .int .i64 e.v.n, .string e.v.s, .slice (some ⟨vb, vo, none⟩) e.args.length c] 59)).alloc (.cells #[.int .i64 0, .int .i64 0, .int .i64 0, .int .i64 0, .string ⟨#[]⟩, .slice none 0 0] 59))) := below_alloc (below_alloc (Below.refl _ w) _) _
  have H6 : Hid (Six ((w.alloc (.cells #[.int .i64 e.op, .int .i64 e.n, .int .i64 e.v.k, .int .i64 e.v.n, .string e.v.s, .slice (some ⟨vb, vo, none⟩) e.args.length c] 59)).alloc (.cells #[.int .i64 0, .int .i64 0, .int .i64 0, .int .i64 0, .string ⟨#[]⟩, .slice none 0 0] 59)) w.heap.size e (some ⟨vb, vo, none⟩) c) := (Six.new w e (some ⟨vb, vo, none⟩) c).later (below_alloc (Below.refl _ _) _)
  have HZ : Hid (Box6 ((w.alloc (.cells #[.int .i64 e.op, .int .i64 e.n, .int .i64 e.v.k, .int .i64 e.v.n, .string e.v.s, .slice (some ⟨vb, vo, none⟩) e.args.length c] 59)).alloc (.cells #[.int .i64 0, .int .i64 0, .int .i64 0, .int .i64 0, .string ⟨#[]⟩, .slice none 0 0] 59)) (w.heap.size + 1) zeroE none 0) := by
    have h := Box6.new (w.alloc (.cells #[.int .i64 e.op, .int .i64 e.n, .int .i64 e.v.k, .int .i64 e.v.n, .string e.v.s, .slice (some ⟨vb, vo, none⟩) e.args.length c] 59)) zeroE none 0
    rw [show (w.alloc (.cells #[.int .i64 e.op, .int .i64 e.n, .int .i64 e.v.k, .int .i64 e.v.n, .string e.v.s, .slice (some ⟨vb, vo, none⟩) e.args.length c] 59)).heap.size = w.heap.size + 1 by simp [go_sem]] at h
    exact h
  have hln : e.args.length = 3 := by rw [hxy]; rfl
  rw [hc] at HC
  rw [Ex.val_open] at HT ⊢
  rw [h21, hln] at HB0 H6 HZ ⊢
  rw [hln] at HC
  have HLN := hide hln
  clear ha hc hse hK hxy hlen hln hcx hcy hcz hkx hky hkz
  by_cases h2 : x.op = 2
  · rw [h2] at HV HT
    have hT2 := unhide HT
    cases ht : isTrueE x with
    | true =>
      rw [ht] at HT HV
      simp only [beq_self_eq_true, if_true] at HV
      clear ht hT2
      go_enter Tryz.func83, Tryz.ntmps83
      go_wp2_with (first
        | (go_at_call 120; refine (unhide HC _ (unhide HB0)).mono ?_; rintro r w1 ⟨rfl, hb1⟩; have hB1 := below_step (unhide HB0) hb1; obtain ⟨b0, b1, b2, b3, b4, b5⟩ := (unhide H6).later hb1; rw [unhide HLN] at b5; obtain ⟨x0, x1, x2, x3, x4, x5⟩ := unhide HCX _ hB1)
        | (go_at_call 125; refine (unhide HT w1).mono ?_; rintro r w2 ⟨rfl, hb2⟩; have hB2 := below_step hB1 hb2; obtain ⟨b0, b1, b2, b3, b4, b5⟩ := (unhide H6).later (below_step hb1 hb2); rw [unhide HLN] at b5; obtain ⟨⟨z0, z1, z2, z3, z4, z5⟩, f0, f1, f2, f3, f4, f5⟩ := (unhide HZ).later (below_step hb1 hb2); obtain ⟨y0, y1, y2, y3, y4, y5⟩ := unhide HCY _ hB2; obtain ⟨q0, q1, q2, q3, q4, q5⟩ := unhide HCZ _ hB2))
      have hE := put6 hB2 (B := w.heap.size + 1) (by omega) (.int .i64 y.op) (.int .i64 y.n) (.int .i64 y.v.k) (.int .i64 y.v.n) (.string y.v.s) (.slice ay y.args.length cy)
      refine bodyPost_ret (v := y.val ay cy) (by simp [results, Tryz.results83, go_sem, Ex.val, *]) rfl ⟨ay, cy, by rw [unhide HV], by rw [unhide HV]; exact (unhide HKY).on (Kept.of_below _ _ hE), hE⟩
    | false =>
      rw [ht] at HT HV
      simp only [beq_self_eq_true, if_true, Bool.false_eq_true, if_false] at HV
      clear ht hT2
      go_enter Tryz.func83, Tryz.ntmps83
      go_wp2_with (first
        | (go_at_call 120; refine (unhide HC _ (unhide HB0)).mono ?_; rintro r w1 ⟨rfl, hb1⟩; have hB1 := below_step (unhide HB0) hb1; obtain ⟨b0, b1, b2, b3, b4, b5⟩ := (unhide H6).later hb1; rw [unhide HLN] at b5; obtain ⟨x0, x1, x2, x3, x4, x5⟩ := unhide HCX _ hB1)
        | (go_at_call 125; refine (unhide HT w1).mono ?_; rintro r w2 ⟨rfl, hb2⟩; have hB2 := below_step hB1 hb2; obtain ⟨b0, b1, b2, b3, b4, b5⟩ := (unhide H6).later (below_step hb1 hb2); rw [unhide HLN] at b5; obtain ⟨⟨z0, z1, z2, z3, z4, z5⟩, f0, f1, f2, f3, f4, f5⟩ := (unhide HZ).later (below_step hb1 hb2); obtain ⟨y0, y1, y2, y3, y4, y5⟩ := unhide HCY _ hB2; obtain ⟨q0, q1, q2, q3, q4, q5⟩ := unhide HCZ _ hB2))
      have hE := put6 hB2 (B := w.heap.size + 1) (by omega) (.int .i64 z.op) (.int .i64 z.n) (.int .i64 z.v.k) (.int .i64 z.v.n) (.string z.v.s) (.slice az z.args.length cz)
      refine bodyPost_ret (v := z.val az cz) (by simp [results, Tryz.results83, go_sem, Ex.val, *]) rfl ⟨az, cz, by rw [unhide HV], by rw [unhide HV]; exact (unhide HKZ).on (Kept.of_below _ _ hE), hE⟩
  · have e2 : (x.op == 2) = false := by simpa using h2
    rw [e2] at HV
    simp only [Bool.false_eq_true, if_false] at HV
    clear e2
    go_enter Tryz.func83, Tryz.ntmps83
    go_wp2_with (go_at_call 120; refine (unhide HC _ (unhide HB0)).mono ?_; rintro r w1 ⟨rfl, hb1⟩; have hB1 := below_step (unhide HB0) hb1; obtain ⟨b0, b1, b2, b3, b4, b5⟩ := (unhide H6).later hb1; rw [unhide HLN] at b5; obtain ⟨x0, x1, x2, x3, x4, x5⟩ := unhide HCX _ hB1; obtain ⟨⟨z0, z1, z2, z3, z4, z5⟩, f0, f1, f2, f3, f4, f5⟩ := (unhide HZ).later hb1)
    have hE := put6 hB1 (B := w.heap.size + 1) (by omega) (.int .i64 21) (.int .i64 e.n) (.int .i64 e.v.k) (.int .i64 e.v.n) (.string e.v.s) (.slice (some ⟨vb, vo, none⟩) 3 c)
    refine bodyPost_ret (v := e.val (some ⟨vb, vo, none⟩) c) (by simp [results, Tryz.results83, go_sem, Ex.val, unhide HLN, *]) rfl ⟨(some ⟨vb, vo, none⟩), c, by rw [unhide HV], by rw [unhide HV]; exact (unhide HK).on (Kept.of_below _ _ hE), hE⟩
/-- simpler (36). -/
theorem simpler_any (e : Ex) (hg : goodE e) (hf : e.fin) (a : Option Addr) (c : Nat) (lo : Nat) (w : World) (hK : ExK lo w a e.args) : Calls Tryz.prog 83 #[e.val a c] w (SimpOk e lo w) := by
  by_cases hl : e.args = []
  · rcases no_args hg hl with ⟨h1, _⟩ | h2
    · exact simp_same e hf (.inr hl) (by omega) (by omega) (by omega) a c lo w hK
    · exact simp_same e hf (.inr hl) (by omega) (by omega) (by omega) a c lo w hK
  · have hl0 : 0 < e.args.length := by
      cases h : e.args with
      | nil => exact absurd h hl
      | cons x l => simp
    cases hc : e.args.any notConst with
    | false => exact simp_all e hg hf hl0 hc a c lo w hK.now
    | true =>
      by_cases h19 : e.op = 19
      · obtain ⟨x, y, hxy⟩ := two_args hg (by rw [h19]; decide)
        exact simp_and e hf hc h19 x y hxy a c lo w hK
      · by_cases h20 : e.op = 20
        · exact simp_or e hf hc h20 a c lo w hK
        · by_cases h21 : e.op = 21
          · have hl3 := sound_len (good_open hg).1
            rw [h21, show arI 21 = 3 by decide] at hl3
            match he : e.args, hl3 with
            | [x, y, z], _ => exact simp_if e hf hc h21 x y z he a c lo w hK
            | [], hl3 => simp at hl3
            | [_], hl3 => simp at hl3
            | [_, _], hl3 => simp at hl3
            | _ :: _ :: _ :: _ :: _, hl3 => simp at hl3; omega
          · exact simp_same e hf (.inl hc) h19 h20 h21 a c lo w hK
end Go.Proofs.YtmjeiepljlepbacGreat
set_option linter.unusedSimpArgs false
set_option linter.unusedVariables false
set_option maxRecDepth 100000
namespace Go.Proofs.YtmjeiepljlepbacGreat
open Go.RowKit Go.Sort

theorem ent36 : Enters 83 := fun args w => by kernel_rfl
set_option maxRecDepth 100000 in
theorem by_simp (W : World) : By W (.func (.func 83) #[] #[]) simpE (fun e => goodE e ∧ e.fin) :=
  ⟨83, #[], rfl, ent36, fun W' lo e a c _ _ hP hK => simpler_any e hP.1 hP.2 a c lo W' hK⟩
theorem made_fold (e : Ex) (hb : builtE e = true) (hf : e.fin) (a : Option Addr) (c : Nat) (w : World) (ha : Ex.all w a e.args) :
    Calls Tryz.prog 82 #[e.val a c, .func (.func 83) #[] #[]] w fun r w' => ∃ a2 c2, r = .returned ((foldE e).val a2 c2) ∧ ExK w.heap.size w' a2 (foldE e).args ∧ Below w.heap.size w w' :=
  made_all (F := .func (.func 83) #[] #[]) (g := simpE) (P := fun e => goodE e ∧ e.fin) (Q := fun e => goodE e ∧ e.fin)
    (fun x hq => ⟨fold_node x hq.1, node_fin x hq.2 fun y hy => fold_fin y (goodL_mem (good_open hq.1).2 hy) (Ex.fins_mem (Ex.fin_open hq.2).2 hy)⟩)
    (fun x y i hq hy => ⟨good_arg hq.1 hy, Ex.fin_arg hq.2 hy⟩) e.size e (Nat.le_refl _) (meas_short soundE e 400 40 (by omega) hb) ⟨built_good hb, hf⟩ a c w ha (by_simp w)
set_option maxHeartbeats 400000 in
set_option maxRecDepth 100000 in
theorem copied_far (e : Ex) (hf : e.fin) (hfar : (measE allE e 33554432 131072).2.2 = false) (a : Option Addr) (c : Nat) (w : World) (ha : Ex.all w a e.args) :
    Calls Tryz.prog 78 #[e.val a c] w fun r w' => r = .returned (e.val a c) ∧ Below w.heap.size w w' := by
  have HM := hide (fun (W : World) (hW : Below w.heap.size w W) => measuredA_all e.size e (Nat.le_refl _) hf 33554432 131072 a c W (by omega) (by omega) (by omega) (by omega) (Ex.all_later _ ha hW))
  have HA := hide (fun (W : World) (hW : Below w.heap.size w W) => Ex.all_later _ ha hW)
  have HB0 : Hid (Below w.heap.size w ((w.alloc (.cells #[.int .i64 e.op, .int .i64 e.n, .int .i64 e.v.k, .int .i64 e.v.n, .string e.v.s, .slice a e.args.length c] 59)).alloc (.cells #[.int .i64 0, .int .i64 0, .int .i64 0, .int .i64 0, .string ⟨#[]⟩, .slice none 0 0] 59))) := below_alloc (below_alloc (Below.refl _ w) _) _
  have H6 : Hid (Six ((w.alloc (.cells #[.int .i64 e.op, .int .i64 e.n, .int .i64 e.v.k, .int .i64 e.v.n, .string e.v.s, .slice a e.args.length c] 59)).alloc (.cells #[.int .i64 0, .int .i64 0, .int .i64 0, .int .i64 0, .string ⟨#[]⟩, .slice none 0 0] 59)) w.heap.size e a c) := (Six.new w e a c).later (below_alloc (Below.refl _ _) _)
  have HZ : Hid (Box6 ((w.alloc (.cells #[.int .i64 e.op, .int .i64 e.n, .int .i64 e.v.k, .int .i64 e.v.n, .string e.v.s, .slice a e.args.length c] 59)).alloc (.cells #[.int .i64 0, .int .i64 0, .int .i64 0, .int .i64 0, .string ⟨#[]⟩, .slice none 0 0] 59)) (w.heap.size + 1) zeroE none 0) := by
    have h := Box6.new (w.alloc (.cells #[.int .i64 e.op, .int .i64 e.n, .int .i64 e.v.k, .int .i64 e.v.n, .string e.v.s, .slice a e.args.length c] 59)) zeroE none 0
    rw [show (w.alloc (.cells #[.int .i64 e.op, .int .i64 e.n, .int .i64 e.v.k, .int .i64 e.v.n, .string e.v.s, .slice a e.args.length c] 59)).heap.size = w.heap.size + 1 by simp [go_sem]] at h
    exact h
  have HS : Hid (((w.alloc (.cells #[.int .i64 e.op, .int .i64 e.n, .int .i64 e.v.k, .int .i64 e.v.n, .string e.v.s, .slice a e.args.length c] 59)).alloc (.cells #[.int .i64 0, .int .i64 0, .int .i64 0, .int .i64 0, .string ⟨#[]⟩, .slice none 0 0] 59)).heap.size = w.heap.size + 2) := by
    show _ = _
    simp [go_sem]
  clear ha
  obtain ⟨q, hq⟩ : ∃ q, measE allE e 33554432 131072 = q := ⟨_, rfl⟩
  rw [hq] at HM hfar
  obtain ⟨c2, h2, ok⟩ := q
  clear hq
  simp only at hfar
  subst hfar
  rw [Ex.val_open] at HM ⊢
  go_enter Tryz.func78, Tryz.ntmps78
  go_wp2_with (go_at_call 61; refine (unhide HM _ (unhide HB0)).mono ?_; rintro r w1 ⟨rfl, hb1⟩; obtain ⟨b0, b1, b2, b3, b4, b5⟩ := (unhide H6).later hb1; obtain ⟨⟨z0, z1, z2, z3, z4, z5⟩, f0, f1, f2, f3, f4, f5⟩ := (unhide HZ).later hb1)
  refine bodyPost_ret (v := e.val a c) (by simp [results, Tryz.results78, go_sem, Ex.val, *]) rfl ⟨rfl, ?_⟩
  exact put6 (below_step (unhide HB0) hb1) (by omega) _ _ _ _ _ _
set_option maxHeartbeats 400000 in
set_option maxRecDepth 100000 in
/-- Fold (14). -/
theorem fold_any (e : Ex) (hf : e.fin) (a : Option Addr) (c : Nat) (w : World) (ha : Ex.all w a e.args) :
    Calls Tryz.prog 41 #[e.val a c] w fun r w' => ∃ a2 c2, r = .returned ((foldB e).val a2 c2) ∧ Ex.all w' a2 (foldB e).args ∧ Below w.heap.size w w' := by
  have HB := hide (fun (W : World) (hW : Below w.heap.size w W) => built_any e hf a c W (Ex.all_later _ ha hW))
  have HC := hide (fun (W : World) (hW : Below w.heap.size w W) => copied_any e hf a c W (Ex.all_later _ ha hW))
  have HCF := hide (fun (hn : (measE allE e 33554432 131072).2.2 = false) (W : World) (hW : Below w.heap.size w W) => copied_far e hf hn a c W (Ex.all_later _ ha hW))
  have HAL := hide (fun (W : World) (hW : Below w.heap.size w W) => Ex.all_later _ ha hW)
  have HM := hide (fun (hb : builtE e = true) (W : World) (hW : Below w.heap.size w W) => made_fold e hb hf a c W (Ex.all_later _ ha hW))
  have HB0 : Hid (Below w.heap.size w ((w.alloc (.cells #[.int .i64 e.op, .int .i64 e.n, .int .i64 e.v.k, .int .i64 e.v.n, .string e.v.s, .slice a e.args.length c] 59)).alloc (.cells #[.int .i64 0, .int .i64 0, .int .i64 0, .int .i64 0, .string ⟨#[]⟩, .slice none 0 0] 59))) := below_alloc (below_alloc (Below.refl _ w) _) _
  have H6 : Hid (Six ((w.alloc (.cells #[.int .i64 e.op, .int .i64 e.n, .int .i64 e.v.k, .int .i64 e.v.n, .string e.v.s, .slice a e.args.length c] 59)).alloc (.cells #[.int .i64 0, .int .i64 0, .int .i64 0, .int .i64 0, .string ⟨#[]⟩, .slice none 0 0] 59)) w.heap.size e a c) := (Six.new w e a c).later (below_alloc (Below.refl _ _) _)
  have HZ : Hid (Box6 ((w.alloc (.cells #[.int .i64 e.op, .int .i64 e.n, .int .i64 e.v.k, .int .i64 e.v.n, .string e.v.s, .slice a e.args.length c] 59)).alloc (.cells #[.int .i64 0, .int .i64 0, .int .i64 0, .int .i64 0, .string ⟨#[]⟩, .slice none 0 0] 59)) (w.heap.size + 1) zeroE none 0) := by
    have h := Box6.new (w.alloc (.cells #[.int .i64 e.op, .int .i64 e.n, .int .i64 e.v.k, .int .i64 e.v.n, .string e.v.s, .slice a e.args.length c] 59)) zeroE none 0
    rw [show (w.alloc (.cells #[.int .i64 e.op, .int .i64 e.n, .int .i64 e.v.k, .int .i64 e.v.n, .string e.v.s, .slice a e.args.length c] 59)).heap.size = w.heap.size + 1 by simp [go_sem]] at h
    exact h
  have HS : Hid (((w.alloc (.cells #[.int .i64 e.op, .int .i64 e.n, .int .i64 e.v.k, .int .i64 e.v.n, .string e.v.s, .slice a e.args.length c] 59)).alloc (.cells #[.int .i64 0, .int .i64 0, .int .i64 0, .int .i64 0, .string ⟨#[]⟩, .slice none 0 0] 59)).heap.size = w.heap.size + 2) := by
    show _ = _
    simp [go_sem]
  rw [Ex.val_open] at HB HC HM HCF ⊢
  clear ha
  cases hb : builtE e with
  | true =>
    have HM2 := hide (unhide HM hb)
    have HV : Hid (foldB e = foldE e) := by show _ = _; unfold foldB; rw [if_pos hb]
    rw [hb] at HB
    clear HM hb HC HCF HAL
    go_enter Tryz.func41, Tryz.ntmps41
    go_wp2_with (first
      | (go_at_call 64; refine (unhide HB _ (unhide HB0)).mono ?_; rintro r w1 ⟨rfl, hb1⟩; have hB1 := below_step (unhide HB0) hb1; obtain ⟨b0, b1, b2, b3, b4, b5⟩ := (unhide H6).later hb1)
      | (go_at_call 82; refine (unhide HM2 _ hB1).mono ?_; rintro r w2 ⟨a2, c2, rfl, hK2, hb2⟩; have HK2 := hide hK2; clear hK2; have hs1 := (unhide HS); have hs2 := hb1.size; obtain ⟨⟨z0, z1, z2, z3, z4, z5⟩, f0, f1, f2, f3, f4, f5⟩ := (unhide HZ).later (below_step hb1 hb2); rw [Ex.val_open]))
    have hE := put6 (below_step hB1 hb2) (B := w.heap.size + 1) (by omega) (.int .i64 (foldE e).op) (.int .i64 (foldE e).n) (.int .i64 (foldE e).v.k) (.int .i64 (foldE e).v.n) (.string (foldE e).v.s) (.slice a2 (foldE e).args.length c2)
    refine bodyPost_ret (v := (foldE e).val a2 c2) (by simp [results, Tryz.results41, go_sem, Ex.val, *]) rfl ⟨a2, c2, by rw [unhide HV], ?_, hE⟩
    rw [unhide HV]
    refine ((unhide HK2).on ((((((Kept.of_low _ _ _ _ ?_).trans (Kept.of_low _ _ _ _ ?_)).trans (Kept.of_low _ _ _ _ ?_)).trans (Kept.of_low _ _ _ _ ?_)).trans (Kept.of_low _ _ _ _ ?_)).trans (Kept.of_low _ _ _ _ ?_))).now <;> omega
  | false =>
    have HV : Hid (foldB e = copyT e) := by show _ = _; unfold foldB; rw [hb]; rfl
    rw [hb] at HB
    clear HM hb
    cases hm : (measE allE e 33554432 131072).2.2 with
    | true =>
      have HMT := hide hm
      clear hm HCF HAL
      go_enter Tryz.func41, Tryz.ntmps41
      go_wp2_with (first
        | (go_at_call 64; refine (unhide HB _ (unhide HB0)).mono ?_; rintro r w1 ⟨rfl, hb1⟩; have hB1 := below_step (unhide HB0) hb1; obtain ⟨b0, b1, b2, b3, b4, b5⟩ := (unhide H6).later hb1)
        | (go_at_call 78; refine (unhide HC _ hB1).mono ?_; rintro r w2 ⟨a2, c2, rfl, hK2, _, hb2⟩; have HK2 := hide (hK2 (unhide HMT)); clear hK2; have hs1 := (unhide HS); have hs2 := hb1.size; obtain ⟨⟨z0, z1, z2, z3, z4, z5⟩, f0, f1, f2, f3, f4, f5⟩ := (unhide HZ).later (below_step hb1 hb2); rw [Ex.val_open]))
      have hE := put6 (below_step hB1 hb2) (B := w.heap.size + 1) (by omega) (.int .i64 (copyT e).op) (.int .i64 (copyT e).n) (.int .i64 (copyT e).v.k) (.int .i64 (copyT e).v.n) (.string (copyT e).v.s) (.slice a2 (copyT e).args.length c2)
      refine bodyPost_ret (v := (copyT e).val a2 c2) (by simp [results, Tryz.results41, go_sem, Ex.val, *]) rfl ⟨a2, c2, by rw [unhide HV], ?_, hE⟩
      rw [unhide HV]
      refine ((unhide HK2).on ((((((Kept.of_low _ _ _ _ ?_).trans (Kept.of_low _ _ _ _ ?_)).trans (Kept.of_low _ _ _ _ ?_)).trans (Kept.of_low _ _ _ _ ?_)).trans (Kept.of_low _ _ _ _ ?_)).trans (Kept.of_low _ _ _ _ ?_))).now <;> omega
    | false =>
      have HC2 := hide (unhide HCF hm)
      have HV2 : Hid (copyT e = e) := by show _ = _; unfold copyT; rw [hm]; rfl
      clear hm HCF HC
      go_enter Tryz.func41, Tryz.ntmps41
      go_wp2_with (first
        | (go_at_call 64; refine (unhide HB _ (unhide HB0)).mono ?_; rintro r w1 ⟨rfl, hb1⟩; have hB1 := below_step (unhide HB0) hb1; obtain ⟨b0, b1, b2, b3, b4, b5⟩ := (unhide H6).later hb1)
        | (go_at_call 78; refine (unhide HC2 _ hB1).mono ?_; rintro r w2 ⟨rfl, hb2⟩; have hs1 := (unhide HS); have hs2 := hb1.size; obtain ⟨⟨z0, z1, z2, z3, z4, z5⟩, f0, f1, f2, f3, f4, f5⟩ := (unhide HZ).later (below_step hb1 hb2); try rw [Ex.val_open]))
      have hE := put6 (below_step hB1 hb2) (B := w.heap.size + 1) (by omega) (.int .i64 e.op) (.int .i64 e.n) (.int .i64 e.v.k) (.int .i64 e.v.n) (.string e.v.s) (.slice a e.args.length c)
      refine bodyPost_ret (v := e.val a c) (by simp [results, Tryz.results41, go_sem, Ex.val, *]) rfl ⟨a, c, by rw [unhide HV, unhide HV2], ?_, hE⟩
      rw [unhide HV, unhide HV2]
      exact unhide HAL _ hE
set_option maxHeartbeats 400000 in
set_option maxRecDepth 100000 in
/-- Size (15). -/
theorem size_any (e : Ex) (hf : e.fin) (a : Option Addr) (c : Nat) (w : World) (ha : Ex.all w a e.args) :
    Calls Tryz.prog 25 #[e.val a c] w fun r w' => r = .returned (.tuple #[.int .i64 (sizeB e).1, .int .i64 (sizeB e).2]) ∧ Below w.heap.size w w' := by
  have HM := hide (fun o => measured_all e.size e (Nat.le_refl _) hf 400 40 a c (w.alloc o) (by omega) (by omega) (by omega) (by omega) (Ex.all_later _ ha (below_alloc (Below.refl _ _) o)))
  rw [Ex.val_open] at HM ⊢
  clear ha
  cases hb : builtE e with
  | true =>
    have hs : sizeB e = ((e.size : Int), (e.high : Int)) := by unfold sizeB; rw [if_pos hb]
    rw [built_size hb] at HM
    rw [hs]
    clear hb hs
    go_enter Tryz.func25, Tryz.ntmps25
    go_wp2_with (go_at_call 61; refine (unhide HM _).mono ?_; rintro r w1 ⟨rfl, hb1⟩)
    refine bodyPost_ret (v := .tuple #[.int .i64 (e.size : Int), .int .i64 (e.high : Int)]) (by simp [results, Tryz.results25, go_sem]) rfl ⟨rfl, below_one hb1⟩
  | false =>
    have hs : sizeB e = (401, 41) := by unfold sizeB; rw [hb]; rfl
    obtain ⟨q, hq⟩ : ∃ q, measE soundE e 400 40 = q := ⟨_, rfl⟩
    have hb2 : builtE e = q.2.2 := by rw [← hq]; rfl
    rw [hb] at hb2
    rw [hq] at HM
    obtain ⟨c2, h2, ok⟩ := q
    simp only at hb2
    subst hb2
    rw [hs]
    clear hb hs hq
    go_enter Tryz.func25, Tryz.ntmps25
    go_wp2_with (go_at_call 61; refine (unhide HM _).mono ?_; rintro r w1 ⟨rfl, hb1⟩)
    refine bodyPost_ret (v := .tuple #[.int .i64 401, .int .i64 41]) (by simp [results, Tryz.results25, go_sem]) rfl ⟨rfl, below_one hb1⟩
end Go.Proofs.YtmjeiepljlepbacGreat

import Derived.Test.YtmjeiepljlepbacGreatRmF
import Derived.Test.YtmjeiepljlepbacGreatPuA
set_option linter.unusedSimpArgs false
set_option linter.unusedVariables false
set_option maxRecDepth 100000
namespace Go.Proofs.YtmjeiepljlepbacGreat
open Go.RowKit Go.Sort

theorem ints_news {w : World} {ad : Addr} {L : List Int} (h : IntsAt w (some ad) L) : ∀ j u, (L.map (Value.int .i64))[j]? = some u → w.cell? (ad.add j) = some u := by
  intro j u hu
  rcases h with rfl | ⟨b, off, e, h⟩
  · simp at hu
  · injection e with e
    subst e
    rw [List.getElem?_map] at hu
    cases hx : L[j]? with
    | none => rw [hx] at hu; cases hu
    | some x =>
      rw [hx] at hu
      injection hu with hu
      subst hu
      have hc := h j x hx
      have ea : (⟨b, off, none⟩ : Addr).add j = ⟨b, off + j, none⟩ := by
        by_cases h : j = 0 <;> simp [Addr.add, h]
      rw [ea]
      exact hc
theorem op_append_ints {o : Oper} {a : Act} {w : World} {K : Act → World → Prop} {Q : Exit → Act → World → Prop} (s x : Operand) (ho : o.op = .call { callee := .builtin .append, args := #[s, x], argTypes := #[23, 23] })
    (base : Nat) (v : Value) (L1 L2 : List Int) (hs : a.eval s = v) (hown : OwnI w base v L1) (ad : Option Addr) (m c2 : Nat) (hx : a.eval x = .slice ad m c2) (hm : m = L2.length) (hsrc : IntsAt w ad L2) (hn : ad = none → c2 = 0)
    (hl : L1.length + L2.length ≤ 1000000) (hbase : base ≤ w.heap.size)
    (h : ∀ v' w', OwnI w' base v' (L1 ++ L2) → w.grownBy w' v.ownBlock → (v'.ownBlock = v.ownBlock ∨ v'.ownBlock = some w.heap.size) → K (a.put o.dst v') w') : o.wp Tryz.prog a w K Q := by
  obtain ⟨i4, hi4, z40, z41, z42⟩ := info_parts info3
  subst hm
  cases ad with
  | none =>
    have hL : L2 = [] := by
      rcases hsrc with h | ⟨b, off, h, _⟩
      · exact h
      · cases h
    subst hL
    rw [hn rfl] at hx
    have hrun := run_append_owned_none (P := Tryz.prog) (w := w) base 23 o.type 3 i4 1 Tryz.underlying23 hi4 v L1.length _ hown
    unfold Oper.wp
    simp [execOp, ho, resolve, invoke, builtin, hs, hx, hrun, Result.andThen]
    exact h v w (by rw [List.append_nil]; exact hown) ⟨rfl, rfl, rfl, Nat.le_refl _, fun _ _ _ => rfl⟩ (.inl rfl)
  | some ad =>
    obtain ⟨v', w', hr, h2, h3, h4, h5⟩ := run_append_own_at (P := Tryz.prog) w base 23 o.type 3 i4 (.int .i64 0) 1 8 Tryz.underlying23 hi4 z40 z41 z42 rfl (by decide) v L1.length (L1.map (.int .i64)) hown ad L2.length c2 (L2.map (.int .i64)) (by simp) (ints_news hsrc) (ints_one L2) (by unfold maxLen; omega) (by omega) hbase
    unfold Oper.wp execOp
    simp only [ho, resolve, invoke, builtin, Sem.run_bind, Sem.run_pure, Result.andThen_ok, List.map_toArray, List.map_cons, List.map_nil, hs, hx, hr]
    refine h v' w' ?_ h3 h5
    unfold OwnI
    rw [List.length_append, List.map_append]
    exact h2
theorem addr_zero (a : Addr) : a.add 0 = a := by simp [Addr.add]
theorem slice_hi (a : Option Addr) (n k c : Nat) (W : World) (hk : k ≤ c) : (Instr.slice 23 (.slice a n c) none (some (.int .i64 (k : Int))) none).run Tryz.prog W = .ok (.slice a k c) W := by
  obtain ⟨i, hi, _, hz, _⟩ := info_parts info3
  have hk2 : (k : Int) ≤ (c : Int) := by omega
  have ea : a.map (fun x : Addr => x.add 0) = a := by cases a with | none => rfl | some a => simp [addr_zero]
  simp [Instr.slice, run_underlying Tryz.underlying23, Instr.sliceBounds, Instr.sliceBound, asIntOf, sizeOf, typeInfo, hi, hz, hk2, ea]
  intro h
  omega
theorem slice_lo (a : Option Addr) (n k c : Nat) (W : World) (hk : k ≤ n) : (Instr.slice 23 (.slice a n c) (some (.int .i64 (k : Int))) none none).run Tryz.prog W = .ok (.slice (if c = k then a else a.map (·.add k)) (n - k) (c - k)) W := by
  obtain ⟨i, hi, _, hz, _⟩ := info_parts info3
  have hk2 : (k : Int) ≤ (n : Int) := by omega
  simp [Instr.slice, run_underlying Tryz.underlying23, Instr.sliceBounds, Instr.sliceBound, asIntOf, sizeOf, typeInfo, hi, hz, hk2]
  intro h
  omega
theorem OwnI.take {w : World} {base k cap : Nat} {a : Option Addr} {L : List Int} (h : OwnI w base (.slice a L.length cap) L) (hk : k ≤ L.length) : OwnI w base (.slice a k cap) (L.take k) := by
  have hlen : (L.take k).length = k := by rw [List.length_take]; omega
  unfold OwnI
  rw [hlen]
  rcases h.2 with ⟨e, h0⟩ | ⟨g, cap', cur, e, q1, q2, q3, q4, q5, q6⟩
  · injection e with e1 e2 e3
    subst e1 e3
    obtain rfl : k = 0 := by omega
    exact ⟨by simp, .inl ⟨rfl, rfl⟩⟩
  · injection e with e1 e2 e3
    subst e1 e3
    refine ⟨by rw [List.length_map, hlen]; omega, .inr ⟨g, cap, cur, rfl, q1, q2, by omega, q4, q5, ?_⟩⟩
    rw [List.map_take, ← q6, List.take_take]
    congr 1
    omega
theorem OwnI.cap_le {w : World} {base cap : Nat} {a : Option Addr} {L : List Int} (h : OwnI w base (.slice a L.length cap) L) : L.length ≤ cap := by
  rcases h.2 with ⟨e, h0⟩ | ⟨g, cap', cur, e, q1, q2, q3, _⟩
  · injection e with e1 e2 e3; omega
  · injection e with e1 e2 e3; omega
theorem OwnI.tail {w : World} {base k cap : Nat} {a : Option Addr} {L : List Int} (h : OwnI w base (.slice a L.length cap) L) (hk : k ≤ L.length) : IntsAt w (if cap = k then a else a.map (·.add k)) (L.drop k) := by
  have hcl := h.cap_le
  by_cases hc : cap = k
  · exact .inl (List.drop_eq_nil_of_le (by omega))
  · rw [if_neg hc]
    rcases h.ints with rfl | ⟨b, off, rfl, hx⟩
    · exact .inl (by simp)
    · refine .inr ⟨b, off + k, ?_, fun i x hi => ?_⟩
      · by_cases h0 : k = 0 <;> simp [Addr.add, h0]
      · rw [List.getElem?_drop] at hi
        have := hx _ _ hi
        rw [show off + k + i = off + (k + i) by omega]
        exact this
theorem OwnI.nil_cap {w : World} {base n cap : Nat} {a : Option Addr} {L : List Int} (h : OwnI w base (.slice a n cap) L) : a = none → cap = 0 := by
  intro ha
  rcases h.2 with ⟨e, h0⟩ | ⟨g, cap', cur, e, _⟩
  · injection e
  · injection e with e1; rw [ha] at e1; cases e1
/-- The numbers of S, rising, each once. -/
def Sd (L S : List Int) : Prop := L.Pairwise (· < ·) ∧ (∀ x, x ∈ L ↔ x ∈ S) ∧ L.length ≤ S.length
theorem Sd.nil : Sd [] [] := ⟨.nil, fun _ => Iff.rfl, Nat.le_refl _⟩
theorem Sd.skip {L S : List Int} {n : Int} {k : Nat} (h : Sd L S) (hk : L[k]? = some n) : Sd L (S ++ [n]) :=
  ⟨h.1, fun x => by
    rw [List.mem_append, List.mem_singleton, ← h.2.1 x]
    exact ⟨.inl, fun hx => hx.elim id fun e => by rw [e]; exact List.mem_of_getElem? hk⟩, by rw [List.length_append]; have := h.2.2; omega⟩
theorem Sd.ins {L S : List Int} {n : Int} {k : Nat} (h : Sd L S) (h1 : ∀ j y, j < k → L[j]? = some y → y < n) (h2 : ∀ y, L[k]? = some y → n < y) (hk : k ≤ L.length) : Sd (L.take k ++ (n :: L.drop k)) (S ++ [n]) := by
  obtain ⟨hp, hm, hl⟩ := h
  have hlow : ∀ y ∈ L.take k, y < n := fun y hy => by
    obtain ⟨j, hj⟩ := List.mem_iff_getElem?.1 hy
    rw [List.getElem?_take] at hj
    split at hj
    · exact h1 j y (by omega) hj
    · cases hj
  have hpd : (L.take k ++ L.drop k).Pairwise (· < ·) := by rw [List.take_append_drop]; exact hp
  rw [List.pairwise_append] at hpd
  obtain ⟨hp1, hp2, hp3⟩ := hpd
  have hhigh : ∀ y ∈ L.drop k, n < y := fun y hy => by
    cases hd : L.drop k with
    | nil => rw [hd] at hy; cases hy
    | cons z r =>
      have hz : L[k]? = some z := by
        have : (L.drop k)[0]? = some z := by rw [hd]; rfl
        rw [List.getElem?_drop] at this
        simpa using this
      have hnz := h2 z hz
      rw [hd] at hy hp2
      rcases List.mem_cons.1 hy with rfl | hy
      · exact hnz
      · have := (List.pairwise_cons.1 hp2).1 y hy
        omega
  refine ⟨?_, fun x => ?_, ?_⟩
  · rw [List.pairwise_append]
    refine ⟨hp1, List.pairwise_cons.2 ⟨hhigh, hp2⟩, fun a ha b hb => ?_⟩
    rcases List.mem_cons.1 hb with rfl | hb
    · exact hlow a ha
    · have := hlow a ha
      have := hhigh b hb
      omega
  · rw [List.mem_append, List.mem_cons, List.mem_append, List.mem_singleton, ← hm x]
    constructor
    · rintro (h | h | h)
      · exact .inl (List.mem_of_mem_take h)
      · exact .inr h
      · exact .inl (List.mem_of_mem_drop h)
    · rintro (h | h)
      · rw [← List.take_append_drop k L, List.mem_append] at h
        rcases h with h | h
        · exact .inl h
        · exact .inr (.inr h)
      · exact .inr (.inl h)
  · rw [List.length_append, List.length_cons, List.length_append, List.length_take, List.length_drop]
    simp
    omega
/-- The last of them is the greatest. -/
theorem Sd.last {L S : List Int} {m : Int} {n : Int} (h : Sd L S) (hl : L[L.length - 1]? = some m) : (S.all fun c => decide (c < n)) = decide (m < n) := by
  have hmem : m ∈ S := (h.2.1 m).1 (List.mem_of_getElem? hl)
  by_cases hm : m < n
  · rw [show decide (m < n) = true by simpa using hm, List.all_eq_true]
    intro c hc
    have hcl : c ∈ L := (h.2.1 c).2 hc
    obtain ⟨i, hi⟩ := List.mem_iff_getElem?.1 hcl
    have hil := (List.getElem?_eq_some_iff.1 hi).1
    have : c ≤ m := by
      by_cases e : i = L.length - 1
      · rw [e, hl] at hi; injection hi with hi; omega
      · have := List.pairwise_iff_getElem.1 h.1 i (L.length - 1) hil (by omega) (by omega)
        have e1 := (List.getElem?_eq_some_iff.1 hi).2
        have e2 := (List.getElem?_eq_some_iff.1 hl).2
        omega
    simp
    omega
  · rw [show decide (m < n) = false by simpa using hm]
    by_cases ha : (S.all fun c => decide (c < n)) = true
    · rw [List.all_eq_true] at ha
      have := ha m hmem
      simp at this
      omega
    · simpa using ha
theorem take_sizes {l : List Ex} {k : Nat} {x : Ex} (h : l[k]? = some x) : (colsL (l.take k)).length + x.size ≤ Ex.sizes l := by
  induction l generalizing k with
  | nil => simp at h
  | cons y l ih =>
    cases k with
    | zero =>
      simp at h
      subst h
      rw [List.take_zero, colsL, Ex.sizes]
      simp
    | succ k =>
      have := ih (by simpa using h : l[k]? = some x)
      have := cols_size y
      rw [List.take_succ_cons, colsL, List.length_append, Ex.sizes]
      omega
def F48 (o : Nat) : Value := .func (.func 77) #[] #[.pointer (some ⟨o, 0, none⟩), .pointer (some ⟨o + 1, 0, none⟩)]
/-- While the columns are gathered: the box of the list, the box of the walk, the list. -/
structure CF (o : Nat) (w0 : World) (S : List Int) (v : Value) (L : List Int) (w : World) : Prop where
  c0 : w.cell? ⟨o, 0, none⟩ = some v
  f0 : w.frozen? ⟨o, 0, none⟩ = false
  c1 : w.cell? ⟨o + 1, 0, none⟩ = some (F48 o)
  own : OwnI w (o + 2) v L
  sd : Sd L S
  bel : Below w0.heap.size w0 w
  lo : w0.heap.size ≤ o
  sz : o + 2 ≤ w.heap.size
theorem CF.later {o : Nat} {w0 : World} {S : List Int} {v : Value} {L : List Int} {w w' : World} (h : CF o w0 S v L w) (hb : Below w.heap.size w w') : CF o w0 S v L w' :=
  ⟨clater h.c0 hb, by rw [hb.frozen (p := ⟨o, 0, none⟩) (World.block_lt_of_cell? _ _ h.c0)]; exact h.f0, clater h.c1 hb, h.own.later hb, h.sd, below_step h.bel hb, h.lo, by have := h.sz; have := hb.size; omega⟩
theorem CF.put {o : Nat} {w0 : World} {S S5 : List Int} {v v5 : Value} {L L5 : List Int} {w w5 : World} (h : CF o w0 S v L w) (hb : Below (o + 2) w w5) (hO : OwnI w5 (o + 2) v5 L5) (hS : Sd L5 S5) : CF o w0 S5 v5 L5 (w5.setCell ⟨o, 0, none⟩ v5) := by
  have c0 : w5.cell? ⟨o, 0, none⟩ = some v := by rw [hb.cell (p := ⟨o, 0, none⟩) (by show o < o + 2; omega)]; exact h.c0
  refine ⟨cell_set_at c0, ?_, ?_, ?_, hS, ?_, h.lo, ?_⟩
  · rw [frozen_set, hb.frozen (p := ⟨o, 0, none⟩) (by show o < o + 2; omega)]; exact h.f0
  · rw [cell_set_ne _ _ _ _ _ _ (by simp), hb.cell (p := ⟨o + 1, 0, none⟩) (by show o + 1 < o + 2; omega)]; exact h.c1
  · obtain ⟨h1, h2⟩ := hO
    refine ⟨h1, ?_⟩
    rcases h2 with h2 | ⟨g, cap, cur, q1, q2, q3, q4⟩
    · exact .inl h2
    · refine .inr ⟨g, cap, cur, q1, q2, ?_, q4⟩
      rw [Below.heap_setCell _ _ _ _ (show g ≠ o by omega)]
      exact q3
  · exact (h.bel.trans (hb.mono (by have := h.lo; omega))).setCell (by show w0.heap.size ≤ o; exact h.lo) _
  · have := h.sz
    have := hb.size
    simp only [World.setCell]
    simp
    omega
end Go.Proofs.YtmjeiepljlepbacGreat
set_option linter.unusedSimpArgs false
set_option linter.unusedVariables false
set_option maxRecDepth 100000
namespace Go.Proofs.YtmjeiepljlepbacGreat
open Go.RowKit Go.Sort

/-- What the walk of ColumnsOf leaves. -/
def WPost (o : Nat) (w0 : World) (S : List Int) (e : Ex) (r : Ending) (w' : World) : Prop := r = .returned (.tuple #[]) ∧ ∃ v' L', CF o w0 (S ++ colsE e) v' L' w'
set_option maxHeartbeats 1000000 in
set_option maxRecDepth 100000 in
theorem walk_other (e : Ex) (hs : e.short) (h1 : (e.op == 1) = false) (o : Nat) (w0 : World) (S : List Int) (v : Value) (L : List Int) (a : Option Addr) (c : Nat) (w : World) (ha : Ex.all w0 a e.args) (hC : CF o w0 S v L w)
    (IH : ∀ (i : Nat) (x : Ex), e.args[i]? = some x → ∀ (a' : Option Addr) (c' : Nat) (S' : List Int) (v' : Value) (L' : List Int) (W : World), S'.length ≤ S.length + (colsL (e.args.take i)).length → Ex.all w0 a' x.args → CF o w0 S' v' L' W → Calls Tryz.prog 77 #[x.val a' c', .pointer (some ⟨o, 0, none⟩), .pointer (some ⟨o + 1, 0, none⟩)] W (WPost o w0 S' x)) :
    Calls Tryz.prog 77 #[e.val a c, .pointer (some ⟨o, 0, none⟩), .pointer (some ⟨o + 1, 0, none⟩)] w (WPost o w0 S e) := by
  have HIH := hide IH
  obtain ⟨hl, _⟩ := Ex.short_open hs
  have HA := hide ha
  have HCE : Hid (colsE e = colsL e.args) := by show _ = _; rw [colsE_eq, h1]; rfl
  have HB0 := hide (below_alloc (Below.refl _ w) (.cells #[.int .i64 e.op, .int .i64 e.n, .int .i64 e.v.k, .int .i64 e.v.n, .string e.v.s, .slice a e.args.length c] 59))
  have HC0 := hide (hC.later (unhide HB0))
  rw [Ex.val_open]
  clear IH ha hs hC
  go_enter Tryz.func77, Tryz.ntmps77
  go_upto_region 8 with fail
  refine enter_with (fun wx => CF o w0 S v L wx) (unhide HC0) ?_
  intro wx HW
  try rw [h1]
  clear HC0 HB0
  go_loopw [52] (fun i wr => ∃ (k : Nat) (v' : Value) (L' : List Int), k ≤ e.args.length ∧ i = .int .i64 (k : Int) ∧ Hid (CF o w0 (S ++ colsL (e.args.take k)) v' L' wr)) (fun i _ => e.args.length - (intOf i).toNat)
  case atStart => exact ⟨0, v, L, Nat.zero_le _, rfl, by rw [List.take_zero, colsL, List.append_nil]; exact unhide HW⟩
  case round =>
    obtain ⟨k, v', L', hk, rfl, HCr⟩ := hrel
    by_cases hlt : k < e.args.length
    · have h9 : (k : Int) < (e.args.length : Int) := by omega
      obtain ⟨x, hx⟩ : ∃ x, e.args[k]? = some x := ⟨_, List.getElem?_eq_getElem hlt⟩
      obtain ⟨vb, vo, ea, hat⟩ := Ex.all_get (unhide HA) hx
      obtain ⟨a', c', ⟨g0, g1, g2, g3, g4, g5⟩, hal⟩ := Ex.at_open hat
      have hbl := (unhide HCr).bel
      have d0 := clater g0 hbl
      have d1 := clater g1 hbl
      have d2 := clater g2 hbl
      have d3 := clater g3 hbl
      have d4 := clater g4 hbl
      have d5 := clater g5 hbl
      have HTK := hide (colsL_take hx)
      have HB1 := hide (below_alloc (Below.refl _ wr) (.cells #[.int .i64 x.op, .int .i64 x.n, .int .i64 x.v.k, .int .i64 x.v.n, .string x.v.s, .slice a' x.args.length c'] 59))
      have hC1 := (unhide HCr).later (unhide HB1)
      have cw := hC1.c1
      unfold F48 at cw
      have HX := hide (unhide HIH k x hx a' c' _ v' L' _ (by rw [List.length_append]; exact Nat.le_refl _) hal hC1)
      rw [Ex.val_open] at HX
      subst ea
      clear hx hat hal hbl g0 g1 g2 g3 g4 g5 hC1
      go_wp2_with (go_at_call 77; refine (unhide HX).mono ?_; rintro r w3 ⟨rfl, v3, L3, hC3⟩; have HC3 := hide hC3; clear hC3)
      refine ⟨⟨k + 1, v3, L3, by omega, by go_num, ?_⟩, by simp [intOf]; omega⟩
      rw [unhide HTK, ← List.append_assoc]
      exact unhide HC3
    · have h9 : ¬ (k : Int) < (e.args.length : Int) := by omega
      have HE : Hid (CF o w0 (S ++ colsE e) v' L' wr) := by
        have := unhide HCr
        rw [List.take_of_length_le (by omega)] at this
        show CF _ _ _ _ _ _
        rw [unhide HCE]
        exact this
      clear HCr
      go_wp2
      exact bodyPost_ret (v := .tuple #[]) (by simp [results, Tryz.results77, go_sem]) rfl ⟨rfl, v', L', unhide HE⟩
end Go.Proofs.YtmjeiepljlepbacGreat

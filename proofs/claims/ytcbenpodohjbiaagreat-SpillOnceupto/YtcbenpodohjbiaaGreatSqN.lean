import Derived.Test.YtcbenpodohjbiaaGreatSqQ
import Derived.Test.YtcbenpodohjbiaaGreatSqE
import Derived.Test.YtcbenpodohjbiaaGreatSqS
set_option linter.unusedSimpArgs false
set_option linter.unusedVariables false
set_option maxRecDepth 100000
namespace Go.Proofs.YtcbenpodohjbiaaGreat
open Go.RowKit Go.Sort

theorem vb_tg {W : World} {b : Nat} (h : Vb W b) : Tg 73 W b := h
/-- What Sorted answers is a list of rows that nothing changes. -/
theorem ownR_lst {w : World} {base : Nat} {v : Value} {L : List El} (h : OwnR w base v L) (hr : ∀ x ∈ L, RowV w v.ownBlock x ∧ x.r.length ≤ maxLen) (hl : ∀ x ∈ L, x.r.length ≤ 1048576) : Lst w v (L.map El.r) := by
  refine ⟨L.map El.v, by simp, ?_, fun i u r hu hr' => ?_⟩
  · rw [List.length_map]
    refine ⟨h.1, h.2.imp id ?_⟩
    rintro ⟨g, cap, cur, q1, q2, q3⟩
    exact ⟨g, cap, cur, q1, Nat.zero_le _, q3⟩
  · rw [List.getElem?_map] at hu hr'
    cases hx : L[i]? with
    | none => rw [hx] at hu; cases hu
    | some x =>
      rw [hx] at hu hr'
      injection hu with hu
      injection hr' with hr'
      subst hu hr'
      have hm := List.mem_of_getElem? hx
      obtain ⟨⟨a, c, e, h1, _, h2⟩, _⟩ := hr x hm
      refine ⟨a, c, e, ?_, hl x hm⟩
      by_cases hne : x.r = []
      · exact .inl hne
      · rcases h1 with h1 | ⟨b, off, ea, h1⟩
        · exact .inl h1
        · exact .inr ⟨b, off, ea, vb_tg (h2 b off ea hne), h1⟩
theorem Lst.rows {w : World} {a : Option Addr} {n c : Nat} {rs : List (List Val)} (h : Lst w (.slice a n c) rs) : RowsT w a rs := by
  by_cases e : rs = []
  · exact .inl e
  · right
    obtain ⟨r0, hr0⟩ : ∃ r0, rs[0]? = some r0 := by
      cases rs with
      | nil => exact absurd rfl e
      | cons r0 rs => exact ⟨r0, rfl⟩
    obtain ⟨g, c', a', k', e', _⟩ := h.get hr0
    injection e' with e1 _ e3
    subst e1
    refine ⟨g, 0, rfl, fun i r hr => ?_⟩
    obtain ⟨g', c', a', k', e', h1, _, h2, h3⟩ := h.get hr
    injection e' with e1 _ e3
    injection e1 with e1
    injection e1 with e1
    subst e1
    exact ⟨a', k', by rw [Nat.zero_add]; exact h1, h2.at⟩
theorem Lst.set {w : World} {g N c j : Nat} {rs : List (List Val)} {u : Value} {r : List Val} (h : Lst w (.slice (some ⟨g, 0, none⟩) N c) rs) (hu : Rw w u r) : Lst (w.setCell ⟨g, j, none⟩ u) (.slice (some ⟨g, 0, none⟩) N c) (rs.set j r) ∧ Ky (fun k => k = g) w (w.setCell ⟨g, j, none⟩ u) := by
  obtain ⟨us, h1, h2, h3⟩ := h
  have hN : N = rs.length := by
    rcases h2.2 with ⟨e, _⟩ | ⟨g', cap', cur, e, _⟩
    · cases e
    · injection e
  subst hN
  have tg : Tg 70 w g := own_tg h2 rfl
  have hk : Ky (fun k => k = g) w (w.setCell ⟨g, j, none⟩ u) := (Ky.refl (fun k => k = g) w).set (F := fun k => k = g) rfl tg (by decide) _ _
  refine ⟨⟨us.set j u, by rw [List.length_set, List.length_set]; exact h1, ?_, fun i y q hy hq => ?_⟩, hk⟩
  · rw [List.length_set]
    exact (World.ownsRow.stored h2 j u).1
  · by_cases e : j = i
    · subst e
      rw [List.getElem?_set] at hy hq
      rw [if_pos rfl] at hy hq
      split at hy
      · split at hq
        · injection hy with hy
          injection hq with hq
          subst hy hq
          exact hu.ky hk
        · cases hq
      · cases hy
    · rw [List.getElem?_set_ne e] at hy hq
      exact (h3 i y q hy hq).ky hk
/-- A row as it is filled: what is done up to k, nulls behind it. -/
def FilN (w wr : World) (ys : List Val) (k : Nat) : Prop := OwnV wr w.heap.size (.slice (some ⟨w.heap.size, 0, none⟩) ys.length ys.length) (ys.take k ++ List.replicate (ys.length - k) Val.null) ∧ Below w.heap.size w wr
theorem FilN.start (w : World) (ys : List Val) (hm : ys.length ≤ 1048576) : FilN w (w.alloc (.cells (madeCells (Value.cells (.agg #[.int .i64 0, .int .i64 0, .string ⟨#[]⟩])) (ys.length * 3)) 73)) ys 0 := by
  refine ⟨?_, below_alloc (Below.refl _ _) _⟩
  rw [List.take_zero, List.nil_append, Nat.sub_zero]
  exact own_made w _ _ (Nat.le_refl _) hm
theorem FilN.next {ys : List Val} {k : Nat} {y : Val} (hy : ys[k]? = some y) : (ys.take k ++ List.replicate (ys.length - k) Val.null).set k y = ys.take (k + 1) ++ List.replicate (ys.length - (k + 1)) Val.null := by
  have hk := (List.getElem?_eq_some_iff.1 hy).1
  have hl : (ys.take k).length = k := by rw [List.length_take]; omega
  rw [List.set_append_right _ _ (by omega), hl, Nat.sub_self, show ys.length - k = (ys.length - (k + 1)) + 1 by omega, List.replicate_succ, List.set_cons_zero, List.take_add_one, hy]
  simp
theorem FilN.step {w wr : World} {ys : List Val} {k : Nat} {y : Val} (h : FilN w wr ys k) (hy : ys[k]? = some y) : FilN w (((wr.setCell ⟨w.heap.size, k * 3, none⟩ (.int .i64 y.k)).setCell ⟨w.heap.size, k * 3 + 1, none⟩ (.int .i64 y.n)).setCell ⟨w.heap.size, k * 3 + 2, none⟩ (.string y.s)) ys (k + 1) := by
  obtain ⟨h2, h4⟩ := h
  have hk := (List.getElem?_eq_some_iff.1 hy).1
  refine ⟨?_, ((h4.setCell (Nat.le_refl _) _).setCell (Nat.le_refl _) _).setCell (Nat.le_refl _) _⟩
  rw [← FilN.next hy]
  exact h2.put (by rw [List.length_append, List.length_take, List.length_replicate]; omega) y
theorem FilN.skip {w wr : World} {ys : List Val} {k : Nat} (h : FilN w wr ys k) (hy : ys[k]? = some Val.null) : FilN w wr ys (k + 1) := by
  refine ⟨?_, h.2⟩
  have hk := (List.getElem?_eq_some_iff.1 hy).1
  have hl : (ys.take k).length = k := by rw [List.length_take]; omega
  have e : (ys.take k ++ List.replicate (ys.length - k) Val.null).set k Val.null = ys.take k ++ List.replicate (ys.length - k) Val.null := by
    rw [List.set_append_right _ _ (by omega), hl, Nat.sub_self, show ys.length - k = (ys.length - (k + 1)) + 1 by omega, List.replicate_succ, List.set_cons_zero]
  rw [← FilN.next hy, e]
  exact h.1
theorem FilN.done {w wr : World} {ys : List Val} (h : FilN w wr ys ys.length) (hm : ys.length ≤ 1048576) : Rw wr (.slice (some ⟨w.heap.size, 0, none⟩) ys.length ys.length) ys := by
  have h1 := h.1
  rw [List.take_length, Nat.sub_self, List.replicate_zero, List.append_nil] at h1
  exact ownV_Rw h1 hm
end Go.Proofs.YtcbenpodohjbiaaGreat
set_option linter.unusedSimpArgs false
set_option linter.unusedVariables false
set_option maxRecDepth 100000
namespace Go.Proofs.YtcbenpodohjbiaaGreat
open Go.RowKit Go.Sort

/-- A type of keys. -/
structure KeyT (κ : Type) (k : TypeId) where
  K : Maps.Keyed Tryz.prog k
  v : κ → Value
  l : κ → Lit
  ok : κ → Prop
  key : ∀ x, ok x → keyOf Tryz.prog k (v x) = some (l x)
  isk : ∀ x, WideAt.IsKeyLit (l x)
  inj : ∀ x y, l x = l y → x = y
def In64 (x : Int) : Prop := -9223372036854775808 ≤ x ∧ x ≤ 9223372036854775807
theorem wf64 {x : Int} (h : In64 x) : (Lit.int .i64 x).wf = true := by
  simp [Lit.wf, IntKind.min, IntKind.max, IntKind.signed, IntKind.bits]
  exact ⟨h.1, h.2⟩
def keyN : KeyT Int 3 := ⟨Maps.int_keyed Tryz.underlying3, fun x => .int .i64 x, fun x => .int .i64 x, In64, fun x h => Maps.keyOf_int_mk Tryz.underlying3 (wf64 h), fun _ => trivial, fun x y h => by injection h⟩
/-- A map that counts. -/
def MpC {κ : Type} {k : TypeId} (T : KeyT κ k) (w : World) (b n : Nat) (f : κ → Int) : Prop := ∃ D : DataW Unit, w.ownsMap Tryz.prog k (plainElem Tryz.prog 3) b n D ∧ Maps.IsMap D ∧ ∀ x, D.atKey (T.l x) (.lit (.int .i64 0)) = .lit (.int .i64 (f x))
theorem zero3 (w : World) : (zeroValue 3).run Tryz.prog w = .ok (.int .i64 0) w := by kernel_rfl
theorem MpC.made {κ : Type} {k : TypeId} (T : KeyT κ k) (w : World) : MpC T (w.alloc (.map #[] 0)) w.heap.size 0 (fun _ => 0) := ⟨.map [], World.ownsMap_made w Tryz.prog k _, ⟨[], rfl⟩, fun x => by rfl⟩
theorem MpC.lt {κ : Type} {k : TypeId} {T : KeyT κ k} {w : World} {b n : Nat} {f : κ → Int} (h : MpC T w b n f) : b < w.heap.size := by obtain ⟨D, h, _⟩ := h; exact h.lt
theorem MpC.later {κ : Type} {k : TypeId} {T : KeyT κ k} {w w' : World} {b n : Nat} {f : κ → Int} (h : MpC T w b n f) (hb : Below w.heap.size w w') : MpC T w' b n f := by
  have hlt := h.lt
  obtain ⟨D, ⟨es, clock, h1, h2⟩, h3⟩ := h
  exact ⟨D, ⟨es, clock, by rw [hb.block b hlt]; exact h1, h2⟩, h3⟩
theorem MpC.look {κ : Type} {k : TypeId} {T : KeyT κ k} {w : World} {b n : Nat} {f : κ → Int} (h : MpC T w b n f) {t : TypeId} (ht : Tryz.prog.underlying t = some (.map k 3)) {x : κ} (hx : T.ok x) : (Instr.lookup t (.map (some b)) (T.v x) false).run Tryz.prog w = .ok (.int .i64 (f x)) w := by
  obtain ⟨D, h1, h2, h3⟩ := h
  obtain ⟨c, hr, ha, _⟩ := h1.lookup_int T.K ht Tryz.underlying3 (zero3 w) (T.key x hx)
  rw [h3 x] at ha
  simp only [DataW.lit.injEq, Lit.int.injEq, true_and] at ha
  rw [hr, ha]
theorem MpC.put {κ : Type} [DecidableEq κ] {k : TypeId} {T : KeyT κ k} {w : World} {b n : Nat} {f : κ → Int} (h : MpC T w b n f) {t : TypeId} (ht : Tryz.prog.underlying t = some (.map k 3)) (hn : n ≤ 140737488355328) {x : κ} (hx : T.ok x) {c : Int} (hc : In64 c) :
    ∃ w', (Instr.mapUpdate t (.map (some b)) (T.v x) (.int .i64 c)).run Tryz.prog w = .ok () w' ∧ MpC T w' b (n + 1) (fun y => if y = x then c else f y) ∧ w.grownBy w' (some b) := by
  obtain ⟨D, h1, h2, h3⟩ := h
  obtain ⟨w', hr, ho, hg⟩ := h1.update T.K ht (by unfold maxLen; omega) (T.key x hx) (plainElem_int Tryz.underlying3 (wf64 hc))
  refine ⟨w', hr, ⟨_, ho, ?_, fun y => ?_⟩, hg⟩
  · obtain ⟨es, rfl⟩ := h2
    exact ⟨_, rfl⟩
  · show _ = DataW.lit (.int .i64 (if y = x then c else f y))
    by_cases e : y = x
    · subst e
      rw [if_pos rfl, Maps.atKey_put_same h2 (T.isk _)]
    · rw [if_neg e, Maps.atKey_put_other (fun q => e (T.inj _ _ q)), h3 y]
/-- m[x] = v. -/
theorem wpList_put_run {ops : Array Oper} {rest : List Oper} {o : Oper} {a : Act} {w : World} {Q : Exit → Act → World → Prop} (hgd : o.guard = none) (m x v : Operand) (t : TypeId) (hop : o.op = Op.mapUpdate t m x v) (vm vx vv : Value) (hm : a.eval m = vm) (hx : a.eval x = vx) (hv : a.eval v = vv) {w' : World}
    (hr : (Instr.mapUpdate t vm vx vv).run Tryz.prog w = .ok () w') (h : wpList Tryz.prog ops Q rest (a.put o.dst undef) w') : wpList Tryz.prog ops Q (o :: rest) a w := by
  refine wpList_plain hgd fun K' hK' => ?_
  unfold Oper.wp
  simp [execOp, hop, hm, hx, hv, hr, Result.andThen]
  exact hK' _ _ h
theorem wpList_look_run {ops : Array Oper} {rest : List Oper} {o : Oper} {a : Act} {w : World} {Q : Exit → Act → World → Prop} (hgd : o.guard = none) (m x : Operand) (t : TypeId) (hop : o.op = Op.lookup t m x false) (vm vx : Value) (hm : a.eval m = vm) (hx : a.eval x = vx) {v' : Value}
    (hr : (Instr.lookup t vm vx false).run Tryz.prog w = .ok v' w) (h : wpList Tryz.prog ops Q rest (a.put o.dst v') w) : wpList Tryz.prog ops Q (o :: rest) a w := by
  refine wpList_plain hgd fun K' hK' => ?_
  unfold Oper.wp
  simp [execOp, hop, hm, hx, hr, Result.andThen]
  exact hK' _ _ h
theorem grown_belowP {w w' : World} {row : Option Nat} (hg : w.grownBy w' row) {B : Nat} (hB : B ≤ w.heap.size) (hr : ∀ g, row = some g → B ≤ g) : Below B w w' :=
  ⟨hg.os, hg.tape, hg.output, hg.size, fun k hk => hg.block k (by omega) (fun e => by have := hr k e.symm; omega)⟩
theorem cntF_step {κ : Type} [DecidableEq κ] {xs : List κ} {k : Nat} {x : κ} (h : xs[k]? = some x) : (fun y => if y = x then cntF xs k x + 1 else cntF xs k y) = cntF xs (k + 1) := by
  funext y
  obtain ⟨h1, rfl⟩ := List.getElem?_eq_some_iff.1 h
  unfold cntF
  rw [List.take_succ_eq_append_getElem h1, List.count_append]
  by_cases e : y = xs[k]
  · subst e; rw [if_pos rfl]; simp
  · rw [if_neg e]
    have : List.count y [xs[k]] = 0 := by rw [List.count_eq_zero]; simpa using e
    rw [this]; simp
theorem cntF_le {κ : Type} [DecidableEq κ] (xs : List κ) (k : Nat) (x : κ) : 0 ≤ cntF xs k x ∧ cntF xs k x ≤ k := by
  unfold cntF
  have := List.count_le_length (l := xs.take k) (a := x)
  rw [List.length_take] at this
  omega
end Go.Proofs.YtcbenpodohjbiaaGreat
set_option linter.unusedSimpArgs false
set_option linter.unusedVariables false
set_option maxRecDepth 100000
namespace Go.Proofs.YtcbenpodohjbiaaGreat
open Go.RowKit Go.Sort

theorem make_none {t k e : TypeId} (h : Tryz.prog.underlying t = some (.map k e)) (W : World) : (Instr.makeMap t none).run Tryz.prog W = .ok (.map (some W.heap.size)) (W.alloc (.map #[] 0)) := by
  simp [Instr.makeMap, run_underlying h, Result.andThen]
theorem any_take {xs : List Int} {k : Nat} {x : Int} (h : xs[k]? = some x) (hn : ∀ y ∈ xs.take k, 0 ≤ y) (h0 : 0 ≤ x) : ∀ y ∈ xs.take (k + 1), 0 ≤ y := by
  obtain ⟨h1, rfl⟩ := List.getElem?_eq_some_iff.1 h
  rw [List.take_succ_eq_append_getElem h1]
  intro y hy
  rcases List.mem_append.1 hy with hy | hy
  · exact hn y hy
  · simp at hy; subst hy; exact h0
set_option maxHeartbeats 2000000 in
/-- areKeys (16). -/
theorem areKeys_any (ks : List (Int × Bool)) (a : Option Addr) (c : Nat) (w : World) (hl : ks.length ≤ 1048576) (hx : ∀ x ∈ ks.map Prod.fst, In64 x) (ha : KeysAt w a ks) :
    Calls Tryz.prog 16 #[.slice a ks.length c] w fun r w' => r = .returned (.bool (keysB ks)) ∧ Below w.heap.size w w' := by
  have HX := hide hx
  have HA := hide ha
  obtain ⟨R, hR⟩ : ∃ R, R = keysB ks := ⟨_, rfl⟩
  rw [← hR]
  unfold keysB at hR
  have HXS := hide (show ∀ (k : Nat) (x : Int × Bool), ks[k]? = some x → (ks.map Prod.fst)[k]? = some x.1 from fun k x h => by rw [List.getElem?_map, h]; rfl)
  have hxl : (ks.map Prod.fst).length = ks.length := List.length_map _
  generalize ks.map Prod.fst = xs at *
  have HR := hide hR
  have HM0 := hide (MpC.made keyN w)
  have HB0 := hide (below_alloc (Below.refl _ w) (.map #[] 0))
  clear hx ha hR
  have hmm := make_none (t := 79) Tryz.underlying79
  go_enter Tryz.func16, Tryz.ntmps16
  go_wp2_with fail
  go_loopw [9] (fun i wr => ∃ (k : Nat), k ≤ ks.length ∧ i = .int .i64 (k : Int) ∧ Hid (MpC keyN wr w.heap.size k (cntF xs k)) ∧ Hid ((xs.take k).Nodup) ∧ Hid (∀ y ∈ xs.take k, 0 ≤ y) ∧ Hid (Below w.heap.size w wr)) (fun i _ => ks.length - (intOf i).toNat)
  case atStart => exact ⟨0, Nat.zero_le _, rfl, by have := unhide HM0; have e : (fun _ => (0 : Int)) = cntF xs 0 := (by funext y; simp [cntF]); rw [e] at this; exact this, by show (xs.take 0).Nodup; simp, by show ∀ y ∈ xs.take 0, 0 ≤ y; simp, unhide HB0⟩
  case round =>
    clear HM0 HB0 hmm
    obtain ⟨k, hk, rfl, HM, HN, HP0, HB⟩ := hrel
    by_cases hlt : k < ks.length
    · have h9 : (k : Int) < (ks.length : Int) := by omega
      obtain ⟨⟨x, x2⟩, hx'⟩ : ∃ x, ks[k]? = some x := ⟨_, List.getElem?_eq_getElem hlt⟩
      obtain ⟨b, off, rfl, d0, d1⟩ := ((unhide HA).later (unhide HB)).get hx'
      have hx := unhide HXS k _ hx'
      simp only at hx d0 d1
      have hok := unhide HX x (List.mem_of_getElem? hx)
      have hle := cntF_le xs k x
      have hb1 := below_alloc (Below.refl _ wr) (.cells #[.int .i64 x, .bool x2] 58)
      have hM1 := (unhide HM).later hb1
      have hc1 : (wr.alloc (.cells #[.int .i64 x, .bool x2] 58)).cell? ⟨wr.heap.size, 0, none⟩ = some (.int .i64 x) := by
        have e : (wr.alloc (.cells #[.int .i64 x, .bool x2] 58)).heap[wr.heap.size]? = some (.cells #[.int .i64 x, .bool x2] 58) := by rw [← World.alloc_eq]; exact Array.getElem?_push_size
        simp only [World.cell?, e]
        rfl
      have hmlt := (unhide HM).lt
      obtain ⟨w1, hw1⟩ : ∃ w1, wr.alloc (.cells #[.int .i64 x, .bool x2] 58) = w1 := ⟨_, rfl⟩
      have hl1 := hM1.look (t := 79) Tryz.underlying79 (x := x) hok
      obtain ⟨w2, hp, hm2, hg⟩ := hM1.put (t := 79) Tryz.underlying79 (by omega) (x := x) hok (c := cntF xs k x + 1) ⟨by omega, by omega⟩
      have hc2 : w2.cell? ⟨wr.heap.size, 0, none⟩ = some (.int .i64 x) := by
        rw [← hc1]
        have := hg.block wr.heap.size (by simp [go_sem]) (by intro e; injection e with e; omega)
        simp only [World.cell?, this]
      have hl2 := hm2.look (t := 79) Tryz.underlying79 (x := x) hok
      rw [if_pos rfl] at hl2
      rw [cntF_step hx] at hm2
      have hns := nodup_step hx (unhide HN)
      have HB1 := below_step (unhide HB) hb1
      have hb2 := HB1.trans (grown_belowP hg HB1.size (fun g e => by cases e; exact Nat.le_refl _))
      have HPO := hide (any_take hx (unhide HP0))
      have HBAD : Hid (x < 0 → R = false) := fun h0 => by
        rw [unhide HR]
        have : (xs.any fun x => decide (x < 0)) = true := List.any_eq_true.2 ⟨x, List.mem_of_getElem? hx, by simpa using h0⟩
        rw [this]; rfl
      have HL1 := hide hl1
      have HP := hide hp
      have HL2 := hide hl2
      have HM2 := hide hm2
      have HB2 := hide hb2
      have HNS := hide hns
      generalize cntF xs k x = cc at *
      clear hx hx' hl1 hp hl2 hm2 hb2 hg hns HM HN HB HP0 hM1 hb1 hw1 w1 HB1 hc1
      change Hid ((Instr.lookup 79 (.map (some w.heap.size)) (.int .i64 x) false).run Tryz.prog _ = .ok (.int .i64 cc) _) at HL1
      change Hid ((Instr.lookup 79 (.map (some w.heap.size)) (.int .i64 x) false).run Tryz.prog w2 = .ok (.int .i64 (cc + 1)) w2) at HL2
      change Hid ((Instr.mapUpdate 79 (.map (some w.heap.size)) (.int .i64 x) (.int .i64 (cc + 1))).run Tryz.prog _ = .ok () w2) at HP
      by_cases hx0 : x < 0
      · go_wp2_with (first
          | (at_lookup; refine wpList_look_run rfl (.tmp 13) (.tmp 15) 79 rfl _ _ rfl rfl (unhide HL1) ?_)
          | (at_mapUpdate; refine wpList_put_run rfl (.tmp 13) (.tmp 15) (.tmp 17) 79 rfl _ _ _ rfl rfl rfl (unhide HP) ?_))
        go_ret
        exact ⟨by rw [unhide HBAD hx0]; rfl, unhide HB2⟩
      by_cases h0 : cc = 0
      · subst h0
        have hl2 := unhide HL2
        go_wp2_with (first
          | (at_lookup; refine wpList_look_run rfl (.tmp 13) (.tmp 15) 79 rfl _ _ rfl rfl (unhide HL1) ?_)
          | (at_mapUpdate; refine wpList_put_run rfl (.tmp 13) (.tmp 15) (.tmp 17) 79 rfl _ _ _ rfl rfl rfl (unhide HP) ?_))
        exact ⟨⟨k + 1, by omega, by go_num, unhide HM2, (unhide HNS).1 rfl, unhide HPO (by omega), unhide HB2⟩, by simp [intOf]; omega⟩
      · have hgt : (1 : Int) < cc + 1 := by omega
        have HZ : Hid (R = false) := by rw [unhide HR]; have := (unhide HNS).2 h0; show _ = _; simp [this]
        clear h0
        have hl2 := unhide HL2
        go_wp2_with (first
          | (at_lookup; refine wpList_look_run rfl (.tmp 13) (.tmp 15) 79 rfl _ _ rfl rfl (unhide HL1) ?_)
          | (at_mapUpdate; refine wpList_put_run rfl (.tmp 13) (.tmp 15) (.tmp 17) 79 rfl _ _ _ rfl rfl rfl (unhide HP) ?_))
        go_ret
        exact ⟨by rw [unhide HZ]; rfl, unhide HB2⟩
    · have h9 : ¬ (k : Int) < (ks.length : Int) := by omega
      have HZ : Hid (R = true) := by
        have h1 := unhide HN
        have h2 := unhide HP0
        rw [List.take_of_length_le (by omega)] at h1 h2
        have h3 : (xs.any fun x => decide (x < 0)) = false := by
          rw [List.any_eq_false]; intro y hy; have := h2 y hy; simpa using this
        rw [unhide HR, h3]; show _ = _; simpa using h1
      clear HM HN HP0
      go_wp2
      go_ret
      exact ⟨by rw [unhide HZ]; rfl, unhide HB⟩
end Go.Proofs.YtcbenpodohjbiaaGreat
set_option linter.unusedSimpArgs false
set_option linter.unusedVariables false
namespace Go.Proofs.YtcbenpodohjbiaaGreat

/-! The runs that wait to be merged, each once: masses. -/
def dot : List Nat → List Nat → Nat
  | l :: ls, m :: ms => l * m + dot ls ms
  | _, _ => 0
theorem dot_le {k : Nat} : ∀ {ls ms : List Nat}, (∀ l ∈ ls, l ≤ k) → dot ls ms ≤ k * ms.sum
  | [], ms, _ => by cases ms <;> simp [dot]
  | l :: ls, [], _ => by simp [dot]
  | l :: ls, m :: ms, h => by
    have ih := dot_le (ls := ls) (ms := ms) (fun x hx => h x (by simp [hx]))
    have h1 := Nat.mul_le_mul_right m (h l (by simp))
    rw [List.sum_cons, Nat.mul_add]
    simp only [dot]
    omega
theorem dot_split : ∀ (c : Nat) {ls ms : List Nat}, ls.length = ms.length → dot ls ms = dot (ls.take c) (ms.take c) + dot (ls.drop c) (ms.drop c)
  | 0, ls, ms, _ => by simp [dot]
  | c + 1, [], ms, h => by
    have : ms = [] := List.eq_nil_of_length_eq_zero (by simpa using h.symm)
    subst this
    simp [dot]
  | c + 1, l :: ls, [], h => by simp at h
  | c + 1, l :: ls, m :: ms, h => by
    have ih := dot_split c (ls := ls) (ms := ms) (by simpa using h)
    simp only [List.take_succ_cons, List.drop_succ_cons, dot]
    omega
theorem dot_snoc : ∀ {ls ms : List Nat} (l m : Nat), ls.length = ms.length → dot (ls ++ [l]) (ms ++ [m]) = dot ls ms + l * m
  | [], ms, l, m, h => by
    have : ms = [] := List.eq_nil_of_length_eq_zero (by simpa using h.symm)
    subst this
    simp [dot]
  | x :: ls, [], l, m, h => by simp at h
  | x :: ls, y :: ms, l, m, h => by
    have ih := dot_snoc (ls := ls) (ms := ms) l m (by simpa using h)
    simp only [List.cons_append, dot]
    omega
theorem dot_ones : ∀ (ms : List Nat), dot (List.replicate ms.length 1) ms = ms.sum
  | [] => by simp [dot]
  | m :: ms => by
    have ih := dot_ones ms
    rw [List.length_cons, List.replicate_succ, List.sum_cons]
    simp only [dot]
    omega
/-- Each run is no longer than its mass. -/
def Lens (R : List (List (List Val))) (ids ms : List Nat) : Prop := ids.length = ms.length ∧ ∀ j i m : Nat, ids[j]? = some i → ms[j]? = some m → (R.getD i []).length ≤ m
theorem Lens.tail {R : List (List (List Val))} {i m : Nat} {ids ms : List Nat} (h : Lens R (i :: ids) (m :: ms)) : (R.getD i []).length ≤ m ∧ Lens R ids ms :=
  ⟨h.2 0 i m rfl rfl, by simpa using h.1, fun j x y hx hy => h.2 (j + 1) x y (by simpa using hx) (by simpa using hy)⟩
theorem Lens.sum {R : List (List (List Val))} : ∀ {ids ms : List Nat}, Lens R ids ms → (rowsOf R ids).length ≤ ms.sum
  | [], ms, h => by simp [rowsOf]
  | i :: ids, [], h => by have := h.1; simp at this
  | i :: ids, m :: ms, h => by
    obtain ⟨h1, h2⟩ := h.tail
    have ih := h2.sum
    rw [rowsOf_cons, List.length_append, List.sum_cons]
    omega
theorem Lens.take {R : List (List (List Val))} {ids ms : List Nat} (h : Lens R ids ms) (c : Nat) : Lens R (ids.take c) (ms.take c) :=
  ⟨by rw [List.length_take, List.length_take, h.1], fun j i m hi hm => by
    rw [List.getElem?_take] at hi hm
    split at hi
    · rename_i q; rw [if_pos q] at hm; exact h.2 j i m hi hm
    · cases hi⟩
theorem Lens.drop {R : List (List (List Val))} {ids ms : List Nat} (h : Lens R ids ms) (c : Nat) : Lens R (ids.drop c) (ms.drop c) :=
  ⟨by rw [List.length_drop, List.length_drop, h.1], fun j i m hi hm => by
    rw [List.getElem?_drop] at hi hm
    exact h.2 _ i m hi hm⟩
theorem Lens.cong {R R' : List (List (List Val))} {ids ms : List Nat} (h : Lens R ids ms) (he : ∀ i ∈ ids, R'.getD i [] = R.getD i []) : Lens R' ids ms :=
  ⟨h.1, fun j i m hi hm => by rw [he i (List.mem_of_getElem? hi)]; exact h.2 j i m hi hm⟩
theorem Lens.snoc {R : List (List (List Val))} {ids ms : List Nat} {i m : Nat} (h : Lens R ids ms) (hm : (R.getD i []).length ≤ m) : Lens R (ids ++ [i]) (ms ++ [m]) := by
  refine ⟨by rw [List.length_append, List.length_append, h.1]; rfl, fun j x y hx hy => ?_⟩
  rcases list_app (vs := ids) hx with q | ⟨q1, q2⟩
  · have hj := (List.getElem?_eq_some_iff.1 q).1
    rw [List.getElem?_append_left (by rw [← h.1]; exact hj)] at hy
    exact h.2 j x y q hy
  · subst q1 q2
    rw [List.getElem?_append_right (by rw [h.1]; exact Nat.le_refl _), h.1, Nat.sub_self] at hy
    simp at hy
    subst hy
    exact hm
theorem sum_split (c : Nat) (ms : List Nat) : ms.sum = (ms.take c).sum + (ms.drop c).sum := by
  have := congrArg List.sum (List.take_append_drop c ms)
  rw [List.sum_append] at this
  exact this.symm
/-- The runs that wait to be merged. -/
structure Q1 (BU k : Nat) (A : List (List Val)) (n C : Nat) (Y0 Y : Yv) (ids labs ms : List Nat) : Prop where
  rd : Y.rd = false
  rf : Y.rf = Y0.rf
  cd : Y.cd = Y0.cd
  out : Y.out = Y0.out
  held : Y.held = 0
  m0 : 0 ≤ Y.most
  m1 : Y.most ≤ BU
  nd : ids.Nodup
  th : ∀ i ∈ ids, Y.there[i]? = some true ∧ ∃ x rs, Y.runs[i]? = some (x :: rs)
  srt : ∀ i ∈ ids, (Y.runs.getD i []).Pairwise fun x y => ordG [] x y ≤ 0
  cln : ∀ i ∈ ids, ∀ x ∈ Y.runs.getD i [], cleanR x = x
  mem : ∀ x, x ∈ rowsOf Y.runs ids ↔ x ∈ A
  lens : Lens Y.runs ids ms
  sum : ms.sum ≤ n
  lab : Lab (BU - 1) k labs
  ll : labs.length = ids.length
  p0 : 0 ≤ Y.puts
  p1 : Y.puts ≤ (dot labs ms : Nat)
  rl : Y.runs.length + ids.length ≤ C
theorem Q1.lt {BU k : Nat} {A : List (List Val)} {n C : Nat} {Y0 Y : Yv} {ids labs ms : List Nat} (h : Q1 BU k A n C Y0 Y ids labs ms) : ∀ i ∈ ids, i < Y.runs.length := fun i hi => by
  obtain ⟨x, rs, e⟩ := (h.th i hi).2
  exact (List.getElem?_eq_some_iff.1 e).1
theorem Q1.tot {BU k : Nat} {A : List (List Val)} {n C : Nat} {Y0 Y : Yv} {ids labs ms : List Nat} (h : Q1 BU k A n C Y0 Y ids labs ms) : (rowsOf Y.runs ids).length ≤ n := Nat.le_trans h.lens.sum h.sum
theorem Q1.puts {BU k : Nat} {A : List (List Val)} {n C : Nat} {Y0 Y : Yv} {ids labs ms : List Nat} (h : Q1 BU k A n C Y0 Y ids labs ms) (hBU : 4 ≤ BU) : Y.puts ≤ ((n * k : Nat) : Int) := by
  have e1 := dot_le (ms := ms) (h.lab.le (show 3 ≤ BU - 1 by omega))
  have e2 := Nat.mul_le_mul_left k h.sum
  have e3 : n * k = k * n := Nat.mul_comm _ _
  have := h.p1
  omega
/-- Some are merged into a new run. -/
theorem Q1.merge {BU k : Nat} {A : List (List Val)} {n C : Nat} {Y0 Y Y' : Yv} {ids labs ms : List Nat} {O : List (List Val)} {c : Nat} {st : Bool} (h : Q1 BU k A n C Y0 Y ids labs ms) (hBU : 4 ≤ BU) (ht : BU - 1 < ids.length) (hlen : Y.there.length = Y.runs.length) (hc : c = cntM (BU - 1) ids.length) (hM : M1 (ids.take c) (some Y.runs.length) BU Y.tick.newRun Y' [] O [] 0 st) :
    Q1 BU k A n C Y0 Y' (ids.drop c ++ [Y.runs.length]) (labs.drop c ++ [labs.getD (c - 1) 0 + 1]) (ms.drop c ++ [(ms.take c).sum]) := by
  obtain ⟨c1, c2⟩ := cntM_le (t := ids.length) (show 3 ≤ BU - 1 by omega)
  rw [← hc] at c1 c2
  have hlt := h.lt
  have hnd := h.nd
  have hsplit : ids = ids.take c ++ ids.drop c := (List.take_append_drop c ids).symm
  have hdj : ∀ i ∈ ids.drop c, i ∉ ids.take c := fun i hi q => by
    rw [hsplit] at hnd
    exact (List.nodup_append.1 hnd).2.2 i q i hi rfl
  have hmd : ∀ i ∈ ids.drop c, i ∈ ids := fun i hi => List.mem_of_mem_drop hi
  have hmt : ∀ i ∈ ids.take c, i ∈ ids := fun i hi => List.mem_of_mem_take hi
  have hRt : Y.runs.length ∉ ids.take c := fun q => by have := hlt _ (hmt _ q); omega
  have hRd : Y.runs.length ∉ ids.drop c := fun q => by have := hlt _ (hmd _ q); omega
  obtain ⟨o1, o2, o3⟩ := hM.done
  obtain ⟨r1, r2, r3⟩ := hM.r _ rfl
  have eT : rowsOf Y.tick.newRun.runs (ids.take c) = rowsOf Y.runs (ids.take c) := rowsOf_cong fun i hi => new_getD (hlt i (hmt i hi))
  rw [eT] at o2 o3
  have kd : ∀ i ∈ ids.drop c, Y'.runs[i]? = Y.runs[i]? := fun i hi => by
    rw [hM.keep i (hdj i hi) (fun e => by injection e with e; have := hlt _ (hmd _ hi); omega)]
    exact new_get (hlt i (hmd i hi))
  have kg : ∀ i ∈ ids.drop c, Y'.runs.getD i [] = Y.runs.getD i [] := fun i hi => by rw [List.getD_eq_getElem?_getD, List.getD_eq_getElem?_getD, kd i hi]
  have eR : Y'.runs.getD Y.runs.length [] = O := getD_of r2
  have eD : rowsOf Y'.runs (ids.drop c) = rowsOf Y.runs (ids.drop c) := rowsOf_cong kg
  have hO : ∃ x rs, O = x :: rs := by
    cases hO : O with
    | cons x rs => exact ⟨x, rs, rfl⟩
    | nil =>
      exfalso
      subst hO
      obtain ⟨i, t, ei⟩ : ∃ i t, ids.take c = i :: t := by
        cases e2 : ids.take c with
        | nil => have := congrArg List.length e2; rw [List.length_take, List.length_nil] at this; omega
        | cons i t => exact ⟨i, t, rfl⟩
      obtain ⟨x, rs, er⟩ := (h.th i (hmt i (by rw [ei]; simp))).2
      have := (o2 x).2 (by rw [ei, rowsOf_cons, getD_of er]; simp)
      simp at this
  have hsum := sum_split c ms
  have hOm : O.length ≤ (ms.take c).sum := Nat.le_trans o3 (h.lens.take c).sum
  have hlm : labs.length = ms.length := by rw [h.ll, h.lens.1]
  refine ⟨hM.rd, hM.rf.trans h.rf, hM.cd.trans h.cd, r1.trans h.out, by have := hM.held; simpa using this, ?_, hM.most, ?_, fun i hi => ?_, fun i hi => ?_, fun i hi => ?_, fun x => ?_, ?_, ?_, ?_, ?_, ?_, ?_, ?_⟩
  · have := hM.hm; have h2 := hM.held; simp at h2; omega
  · refine List.nodup_append.2 ⟨?_, by simp, fun a ha b hb e => ?_⟩
    · rw [hsplit] at hnd; exact (List.nodup_append.1 hnd).2.1
    · simp at hb; subst hb; subst e; exact hRd ha
  · rcases List.mem_append.1 hi with q | q
    · obtain ⟨t1, t2⟩ := h.th i (hmd i q)
      refine ⟨?_, by rw [kd i q]; exact t2⟩
      rw [hM.oth i (hdj i q)]
      show (Y.there ++ [true])[i]? = _
      rw [List.getElem?_append_left (by have := hlt i (hmd i q); omega)]
      exact t1
    · simp at q
      subst q
      refine ⟨?_, ?_⟩
      · rw [hM.oth _ hRt]
        show (Y.there ++ [true])[Y.runs.length]? = _
        rw [← hlen, List.getElem?_append_right (Nat.le_refl _), Nat.sub_self]; rfl
      · obtain ⟨x, rs, e⟩ := hO
        exact ⟨x, rs, by rw [r2, e]⟩
  · rcases List.mem_append.1 hi with q | q
    · rw [kg i q]; exact h.srt i (hmd i q)
    · simp at q
      subst q
      rw [eR]
      exact o1.imp fun hxy => by rw [ordG_nil]; omega
  · rcases List.mem_append.1 hi with q | q
    · rw [kg i q]; exact h.cln i (hmd i q)
    · simp at q
      subst q
      rw [eR]
      intro x hx
      have hx' := (o2 x).1 hx
      unfold rowsOf at hx'
      obtain ⟨j, hj, hxj⟩ := List.mem_flatMap.1 hx'
      exact h.cln j (hmt j hj) x hxj
  · rw [← h.mem x, rowsOf_app, rowsOf_one, eR, eD, List.mem_append, o2]
    have e : rowsOf Y.runs ids = rowsOf Y.runs (ids.take c) ++ rowsOf Y.runs (ids.drop c) := by rw [← rowsOf_app, ← hsplit]
    rw [e, List.mem_append]
    exact or_comm
  · refine ((h.lens.drop c).cong kg).snoc ?_
    rw [eR]; exact hOm
  · rw [List.sum_append]
    have := h.sum
    simp only [List.sum_cons, List.sum_nil]
    omega
  · have := h.lab.step (show 3 ≤ BU - 1 by omega) (by rw [h.ll]; exact ht)
    rw [h.ll, ← hc] at this
    exact this
  · rw [List.length_append, List.length_append, List.length_drop, List.length_drop, h.ll]; rfl
  · rw [r3]
    have := h.p0
    show 0 ≤ Y.puts + _
    omega
  · rw [r3, dot_snoc _ _ (by rw [List.length_drop, List.length_drop, hlm])]
    have e1 := dot_split c hlm
    have e2 := dot_le (ms := ms.take c) (h.lab.mono (c := c) (by omega) (by rw [h.ll]; omega))
    have e4 := h.p1
    rw [e1] at e4
    have e5 : (labs.getD (c - 1) 0 + 1) * (ms.take c).sum = labs.getD (c - 1) 0 * (ms.take c).sum + (ms.take c).sum := by rw [Nat.add_mul, Nat.one_mul]
    rw [e5]
    show Y.puts + _ ≤ _
    omega
  · have e1 : Y'.runs.length = Y.runs.length + 1 := by
      rw [hM.len]
      show (Y.runs ++ [[]]).length = _
      rw [List.length_append]; rfl
    have := h.rl
    rw [e1, List.length_append, List.length_drop]
    simp only [List.length_cons, List.length_nil]
    omega
end Go.Proofs.YtcbenpodohjbiaaGreat
set_option linter.unusedSimpArgs false
set_option linter.unusedVariables false
set_option maxRecDepth 100000
namespace Go.Proofs.YtcbenpodohjbiaaGreat
open Go.RowKit Go.Sort

theorem M1.totp {ids : List Nat} {S : Option Nat} {BU : Nat} {Y Yk : Yv} {L : List Hd} {O hand : List (List Val)} {ex : Nat} {st : Bool} (h : M1 ids S BU Y Yk L O hand ex st) : O.length + hand.length ≤ (rowsOf Y.runs ids).length ∧ (Yk.out.length : Int) + Yk.puts = Y.out.length + Y.puts + O.length := by
  have h1 := h.tot
  refine ⟨by omega, ?_⟩
  cases S with
  | none => obtain ⟨q1, q2⟩ := h.o rfl; rw [q1, q2, List.length_append]; omega
  | some i => obtain ⟨q1, _, q2⟩ := h.r i rfl; rw [q1, q2]; omega
/-- step, where each row is wanted once. -/
theorem step_m1 {F : Nat → Prop} {w : World} {b y m mg B : Nat} {Y Yk : Yv} {S op : Option Nat} {L : List Hd} {ids : List Nat} {BU : Nat} {O hand : List (List Val)} {st : Bool} (h : Mw w b y m mg B [] Yk op L F) (hI : M1 ids S BU Y Yk L O hand 0 st) (hL : 0 < L.length) (hb : ids.length + 1 ≤ BU) (hb2 : BU ≤ 65536) (hrl : Y.runs.length ≤ 1048576) (hcd : Y.cd ≠ 0) (hop : ∀ i ∈ ids, op ≠ some i) (hS : ∀ i, S = some i → i ∉ ids) :
    Calls Tryz.prog 67 #[.pointer (some ⟨mg, 0, none⟩)] w fun e w' => ∃ (Y1 : Yv) (L' : List Hd) (c : Int), e = .returned (.int .i64 c) ∧ Mo w w' b y m mg B [] Y1 op L' F ∧ ((c = 0 ∧ Stp ids S BU Y Yk Y1 L L' 0) ∨ (c = Y.cd ∧ Rf1 ids S BU Y Y1)) := by
  obtain ⟨z1, z2, z3⟩ := hI.zero hL
  have hll := hI.ll
  have hhd := hI.held
  cases hit : Yk.hit
  · obtain ⟨R, hR⟩ : ∃ R, Yk.runs[(hAt L 0).i]? = some R := ⟨_, List.getElem?_eq_getElem z3⟩
    cases R with
    | nil =>
      refine (step_end (n := L.length - 1) h (by omega) (by omega) hI.heap (hop _ z1) z2 hR (by rw [hI.len]; exact hrl) hI.rd hit).mono ?_
      rintro _ w' ⟨rfl, L', p1, p2, p3⟩
      exact ⟨_, L', 0, rfl, p3, .inl ⟨rfl, hI.end_ hL hR p1 p2 hit hS⟩⟩
    | cons r rs =>
      refine (step_row h hL (by omega) hI.heap (hop _ z1) z2 hR (by rw [hI.len]; exact hrl) (by omega) (by omega) hI.rd hit).mono ?_
      rintro _ w' ⟨rfl, L', u, p1, p2, p3⟩
      exact ⟨_, L', 0, rfl, p3, .inl ⟨rfl, hI.row hL rfl hb hR p1 p2 hit hS⟩⟩
  · refine (step_hit h hL hI.rd hit (by rw [hI.cd]; exact hcd)).mono ?_
    rintro _ w' ⟨rfl, p1⟩
    exact ⟨_, L, Yk.cd, rfl, p1, .inr ⟨hI.cd, hI.no (tick_hit hit).1 (tick_hit hit).2 rfl rfl rfl rfl rfl⟩⟩
/-- A sink takes a row, where each is wanted once. -/
theorem take_m1 {F : Nat → Prop} {w : World} {b y m mg B : Nat} {ks : List (Int × Bool)} {Y Y1 : Yv} {S op : Option Nat} {L : List Hd} {ids : List Nat} {BU : Nat} {O : List (List Val)} {x : List Val} {u : Value} (h : Mw w b y m mg B ks Y1 op L F) (hI : M1 ids S BU Y Y1 L O [x] 1 true) (hu : Rw w u x) (hb : ids.length + 1 ≤ BU) (hb2 : BU ≤ 65536) (hrl : Y.runs.length ≤ 1048576) (hcd : Y.cd ≠ 0) (hS : ∀ i, S = some i → op = some i ∧ i ∉ ids ∧ Y.there[i]? = some true) (ht : (rowsOf Y.runs ids).length ≤ 1048576) (hout : Y.out.length + (rowsOf Y.runs ids).length ≤ 1048577) (hp0 : 0 ≤ Y.puts) (hp1 : Y.puts + (rowsOf Y.runs ids).length ≤ 1099511627776) :
    Calls Tryz.prog (snkF S) #[snkA b y S, u] w fun e w' => ∃ (Y2 : Yv) (c : Int), e = .returned (.int .i64 c) ∧ Mo w w' b y m mg B ks Y2 op L F ∧ ((c = 0 ∧ M1 ids S BU Y Y2 L (O ++ [x]) [] 0 true) ∨ (c = Y.cd ∧ Rf1 ids S BU Y Y2)) := by
  obtain ⟨h1, h2, F0, vH, h3, h4, h5, h6, h7, h8, h9⟩ := h
  have hhd := hI.held
  have hll := hI.ll
  obtain ⟨t1, t2⟩ := hI.totp
  simp only [List.length_cons, List.length_nil] at t1
  have hcd1 : Y1.cd ≠ 0 := by rw [hI.cd]; exact hcd
  have hsk : SnkOk S op Y1 (0 + 1) := by
    refine ⟨hI.rd, by omega, by omega, hI.hm, by rw [hI.len]; exact hrl, fun e => ?_, fun i e => ?_⟩
    · rw [(hI.o e).1, List.length_append]; omega
    · obtain ⟨q1, q2, q3⟩ := hS i e
      obtain ⟨r1, r2, r3⟩ := hI.r i e
      exact ⟨q1, by rw [hI.oth i q2]; exact q3, ⟨O, r2, by omega⟩, by rw [r3]; omega, by rw [r3]; omega⟩
  refine (stake (n := 0) h6 hu hsk (.inl hcd1)).mono ?_
  rintro _ w' ⟨Y2, c, rfl, hY, hc⟩
  refine ⟨Y2, c, rfl, Mw.under h1 h2 h3 h4 h5 h7 h8 h9 hY, ?_⟩
  rcases hc with ⟨p1, p2, p3, p4⟩ | ⟨p1, p2, p3, p4, p5⟩
  · exact .inl ⟨p1, hI.take p2 p3.rd (fun i e => (hS i e).2.1)⟩
  · refine .inr ⟨by rw [p1, hI.cd], hI.no p4 p5 p3.rf p3.cd p3.most ?_ ?_⟩
    · cases S with
      | none => rw [(p3.o rfl).1, List.append_nil]
      | some i => exact (p3.r i rfl).1
    · cases S with
      | none => rw [(p3.o rfl).2.1]
      | some i => rw [(p3.r i rfl).2.1 O (hI.r i rfl).2.1, List.length_set]
/-- open, where each row is wanted once. -/
theorem open_m1 {F : Nat → Prop} {w : World} {b y m mg B : Nat} {Y : Yv} {S op : Option Nat} {a : Option Addr} {c : Nat} {ids : List Nat} {BU : Nat} (h : Mw w b y m mg B [] Y op [] F) (hids : IdsK w F a ids) (hnd : ids.Nodup) (hb : ids.length + 1 ≤ BU) (hb2 : BU ≤ 65536) (hrl : Y.runs.length ≤ 1048576) (h0 : Y.held = 0) (hm : Y.most ≤ BU) (hm0 : 0 ≤ Y.most) (hrd : Y.rd = false) (hcd : Y.cd ≠ 0) (hth : ∀ i ∈ ids, Y.there[i]? = some true ∧ op ≠ some i ∧ ∃ x rs, Y.runs[i]? = some (x :: rs))
    (hs : ∀ i ∈ ids, (Y.runs.getD i []).Pairwise fun x y => ordG [] x y ≤ 0) (hc : ∀ i ∈ ids, ∀ x ∈ Y.runs.getD i [], cleanR x = x) (hS : ∀ i, S = some i → i ∉ ids ∧ Y.runs[i]? = some []) :
    Calls Tryz.prog 66 #[.pointer (some ⟨mg, 0, none⟩), .slice a ids.length c] w fun e w' => ∃ (Y1 : Yv) (L : List Hd) (c : Int), e = .returned (.int .i64 c) ∧ Mo w w' b y m mg B [] Y1 op L F ∧ ((c = 0 ∧ M1 ids S BU Y Y1 L [] [] 0 false) ∨ (c = Y.cd ∧ Rf1 ids S BU Y Y1)) := by
  refine (open_any h hids hnd (by omega) hrl (by omega) (by omega) hrd hcd hth).mono ?_
  rintro _ w' ⟨Y', L, c, rfl, hM, hc'⟩
  refine ⟨Y', L, c, rfl, hM, ?_⟩
  rcases hc' with ⟨p1, p2, L0, p3, p4⟩ | ⟨p1, k, L0, Yk, p2, p3, p4, rfl⟩
  · exact .inl ⟨p1, M1.start p4 p3 p2 hnd hb h0 hm hm0 (fun i hi => (hth i hi).1) hs hc hS⟩
  · refine .inr ⟨p1, (tick_hit p4).1, (tick_hit p4).2, p3.rf, p3.cd, ?_, p3.len, [], rowsOf Y.runs ids, by rw [List.append_nil]; exact p3.out, by simp, by simp [Rs], by simp, fun _ _ => rfl⟩
    show Yk.most ≤ _
    rw [p3.most, h0, List.length_take]
    split <;> omega
theorem Mo.more {w w1 w2 : World} {b y m mg B : Nat} {ks : List (Int × Bool)} {Y1 Y2 : Yv} {op : Option Nat} {L1 L2 : List Hd} {F : Nat → Prop} (h : Mo w w1 b y m mg B ks Y1 op L1 F) (h2 : ∀ F', Mw w1 b y m mg B ks Y1 op L1 F' → Mo w1 w2 b y m mg B ks Y2 op L2 F') : Mo w w2 b y m mg B ks Y2 op L2 F := by
  obtain ⟨F1, a1, a2, a3, a4⟩ := h
  obtain ⟨F2, b1, b2, b3, b4⟩ := h2 F1 a3
  exact ⟨F2, a1.trans b1 a4.size, fun k hk => b2 k (a2 k hk), b3, a4.trans b4 a1⟩
theorem Mo.later {w w1 w2 : World} {b y m mg B : Nat} {ks : List (Int × Bool)} {Y1 : Yv} {op : Option Nat} {L1 : List Hd} {F : Nat → Prop} (h : Mo w w1 b y m mg B ks Y1 op L1 F) (hb : Below w1.heap.size w1 w2) : Mo w w2 b y m mg B ks Y1 op L1 F :=
  h.more fun F' q => ⟨F', Nw.refl _ _, fun _ e => e, q.ky (G := fun _ => False) (Ky.of_below hb) (fun _ => False.elim) id, Ky.of_below hb⟩
/-- Let of one row. -/
theorem let_yo {F : Nat → Prop} {b y m : Nat} {Y : Yv} {op : Option Nat} {w : World} (h : Yw w b y m Y op F) (h0 : 1 ≤ Y.held) (g1 : Y.held ≤ 1048576) :
    w.cell? ⟨y, 0, none⟩ = some (.iface 24 (.pointer (some ⟨b, 0, none⟩))) ∧ Calls Tryz.prog 152 #[.pointer (some ⟨b, 0, none⟩), .int .i64 1] w fun e w' => e = .returned (.tuple #[]) ∧ Yo w w' b y m (Y.hold (-1)) op F := by
  obtain ⟨h1, h2, F0, ks, h3, h4, h5, h6, h7⟩ := h
  have fb := h5.1
  refine ⟨h6.c0, (let_any h5 (1 : Int) (by omega) (by omega) g1).mono ?_⟩
  rintro _ w1 ⟨rfl, hP, hK⟩
  exact ⟨rfl, Yw.call1 h1 h2 h3 h4 h6 fb h7 hP hK rfl⟩
theorem rows_same {x y : List Val} (h : rowsV x y = 0) (hx : cleanR x = x) (hy : cleanR y = y) : x = y := by
  have e := rows_eq _ _ h
  unfold cleanR at hx hy
  rw [hx, hy] at e
  exact e
/-- How many steps are left, by the calls that the yard has counted. -/
def measS (b T : Nat) (c0 : Int) (wr : World) : Nat := match wr.cell? ⟨b, 4, none⟩ with
  | some (.int _ p) => T - ((p - c0) % 18446744073709551616).toNat
  | _ => 0
theorem Yw.calls {F : Nat → Prop} {w : World} {b y m : Nat} {Y : Yv} {op : Option Nat} (h : Yw w b y m Y op F) : w.cell? ⟨b, 4, none⟩ = some (.int .i64 Y.calls) := by
  obtain ⟨_, _, _, _, _, _, ⟨_, vO, vR, vT, us, hB, hl⟩, _⟩ := h
  exact hB.c4
theorem measS_of {b T : Nat} {c0 : Int} {wr : World} {F : Nat → Prop} {y m : Nat} {Y : Yv} {op : Option Nat} (h : Yw wr b y m Y op F) : measS b T c0 wr = T - ((Y.calls - c0) % 18446744073709551616).toNat := by
  unfold measS
  rw [h.calls]
theorem wrap_mod (x c0 : Int) : (IntKind.i64.wrap x - c0) % 18446744073709551616 = (x - c0) % 18446744073709551616 := by
  have e : IntKind.i64.wrap x = if x % 18446744073709551616 ≥ 9223372036854775808 then x % 18446744073709551616 - 18446744073709551616 else x % 18446744073709551616 := by simp [IntKind.wrap, IntKind.signed, IntKind.bits]
  rw [e]
  split <;> omega
/-- What skip keeps. -/
structure Sk1 (ids : List Nat) (S : Option Nat) (BU : Nat) (Y Yk : Yv) (L : List Hd) (O : List (List Val)) (x : List Val) (T : Nat) (c0 : Int) (j : Nat) : Prop where
  mi : M1 ids S BU Y Yk L O [x] 1 false
  cl : (Yk.calls - c0) % 18446744073709551616 = (j : Int)
  left : j + (restR Yk.runs L).length ≤ T
theorem Sk1.next {ids : List Nat} {S : Option Nat} {BU : Nat} {Y Yk Y1 : Yv} {L L' : List Hd} {O : List (List Val)} {x : List Val} {T : Nat} {c0 : Int} {j : Nat} (h : Sk1 ids S BU Y Yk L O x T c0 j) (hT : T ≤ 1048577) (hs : Stp ids S BU Y (Yk.hold (-1)) Y1 L L' 0) (hx : (hAt L 0).r = x) : Sk1 ids S BU Y Y1 L' O x T c0 (j + 1) := by
  have e := hs.pm.length_eq
  have h3 := h.left
  have h2 := h.cl
  have er : (Yk.hold (-1)).runs = Yk.runs := rfl
  rw [er, List.length_cons] at e
  refine ⟨h.mi.let_.again hs hx, ?_, by omega⟩
  rw [hs.calls, wrap_mod]
  show (Yk.calls + 1 - c0) % _ = _
  omega
end Go.Proofs.YtcbenpodohjbiaaGreat
set_option linter.unusedSimpArgs false
set_option linter.unusedVariables false
set_option maxRecDepth 100000
namespace Go.Proofs.YtcbenpodohjbiaaGreat
open Go.RowKit Go.Sort

set_option maxHeartbeats 8000000 in
/-- skip (68). -/
theorem skip_m1 {F : Nat → Prop} {w : World} {b y m mg B : Nat} {Y Yk0 : Yv} {S op : Option Nat} {L0 : List Hd} {ids : List Nat} {BU : Nat} {O : List (List Val)} {x : List Val} {u : Value} (h : Mw w b y m mg B [] Yk0 op L0 F) (hI : M1 ids S BU Y Yk0 L0 O [x] 1 false) (hu : Rw w u x) (hb : ids.length + 1 ≤ BU) (hb2 : BU ≤ 65536) (hrl : Y.runs.length ≤ 1048576) (hcd : Y.cd ≠ 0) (hop : ∀ i ∈ ids, op ≠ some i) (hS : ∀ i, S = some i → i ∉ ids) (ht : (rowsOf Y.runs ids).length ≤ 1048576) :
    Calls Tryz.prog 68 #[.pointer (some ⟨mg, 0, none⟩), u] w fun e w' => ∃ (Y1 : Yv) (L' : List Hd) (c : Int), e = .returned (.int .i64 c) ∧ Mo w w' b y m mg B [] Y1 op L' F ∧ ((c = 0 ∧ M1 ids S BU Y Y1 L' O [x] 1 true) ∨ (c = Y.cd ∧ Rf1 ids S BU Y Y1)) := by
  have hm : ∀ w : World, (method 297 24 (.pointer (some ⟨b, 0, none⟩)) "Let").run Tryz.prog w = .ok (152, .pointer (some ⟨b, 0, none⟩)) w := fun _ => by kernel_rfl
  have HU := hide hu
  obtain ⟨au, cu, rfl, _, _⟩ := hu
  obtain ⟨T, hT⟩ : ∃ T, (restR Yk0.runs L0).length = T := ⟨_, rfl⟩
  have hTb : T ≤ 1048576 := by have := hI.tot; omega
  have H0 : Hid (Mo w w b y m mg B [] Yk0 op L0 F ∧ Sk1 ids S BU Y Yk0 L0 O x (T + 1) Yk0.calls 0) := ⟨⟨F, Nw.refl _ _, fun _ e => e, h, Ky.refl _ _⟩, hI, by simp, by omega⟩
  obtain ⟨c0, hc0⟩ : ∃ c0, Yk0.calls = c0 := ⟨_, rfl⟩
  rw [hc0] at H0
  obtain ⟨X, hX⟩ : ∃ X, x.length = X := ⟨_, rfl⟩
  have HX := hide hX
  rw [hX] at HU ⊢
  have HCD := hide hcd
  have HOP := hide hop
  have HSS := hide hS
  clear h hI hT hc0 hX hop hS
  go_enter Tryz.func68, Tryz.ntmps68
  go_wp2_with fail
  go_loopw [5] (fun s5 wr => ∃ (Yk : Yv) (L : List Hd) (j : Nat), Hid (Mo w wr b y m mg B [] Yk op L F ∧ Sk1 ids S BU Y Yk L O x (T + 1) c0 j)) (fun _ wr => measS b (T + 1) c0 wr)
  case atStart => exact ⟨Yk0, L0, 0, H0⟩
  case round =>
    obtain ⟨Yk, L, j, HI⟩ := hrel
    obtain ⟨⟨F1, n1, n2, n3, n4⟩, hSk⟩ := unhide HI
    have hI := hSk.mi
    obtain ⟨h1, h2, F0, vH, h3, h4, h5, h6, h7, h8, h9⟩ := n3
    have HME := hide (measS_of (T := T + 1) (c0 := c0) h6)
    obtain ⟨aH, cH, eH⟩ : ∃ aH cH, vH = .slice aH L.length cH := by
      rcases h8.1.2 with ⟨e1, e2⟩ | ⟨g, cap, cur, e1, _⟩
      · exact ⟨none, 0, by rw [e1, e2]⟩
      · exact ⟨_, _, e1⟩
    have d0 := h7.c0
    have d1 := h7.c1
    have d2 := h7.c2
    rw [eH] at d2
    have hhd := hI.held
    have hll := hI.ll
    have HLT := hide (let_yo h6 (by omega) (by omega))
    by_cases hL : 0 < L.length
    · obtain ⟨g, cH2, e2, _⟩ := h8.some hL
      rw [eH] at e2
      injection e2 with e2 _ _
      rw [e2] at d2 eH
      have hH8 := h8
      rw [eH] at hH8
      obtain ⟨r0, r1, _, _, hRw⟩ := hH8.at (j := 0) hL
      simp only [Nat.zero_mul, Nat.zero_add] at r0 r1
      have hRw' := hRw
      obtain ⟨ah, ch, eu, hrc, hrl'⟩ := hRw
      rw [eu] at r0 hRw'
      have HC : Hid (∀ V : World, Below wr.heap.size wr V → Calls Tryz.prog 32 #[.slice ah (hAt L 0).r.length ch, .slice au X cu, .pointer (some ⟨B, 0, none⟩)] V fun e w' => e = .returned (.int .i64 (rowsV (hAt L 0).r x)) ∧ Below V.heap.size V w') := fun V hb => by
        have q := (h9.ky (F := fun _ => False) (Ky.of_below hb)).cmp (hRw'.later hb) (((unhide HU).ky n4).later hb)
        rw [ordG_nil] at q
        exact q.mono fun e w' h => ⟨h.1, h.2.1⟩
      obtain ⟨V0, hV0⟩ : ∃ V0, rowsV (hAt L 0).r x = V0 := ⟨_, rfl⟩
      rw [hV0] at HC
      have HV := hide hV0
      obtain ⟨N, hN⟩ : ∃ N, L.length = N := ⟨_, rfl⟩
      rw [hN] at d2
      have j0 : (0 : Int) < (N : Int) := by omega
      have jn : 0 < N := by omega
      obtain ⟨lh, hlh⟩ : ∃ lh, (hAt L 0).r.length = lh := ⟨_, rfl⟩
      rw [hlh] at HC r0
      have k0 := cell_regrown r0
      have k1 := cell_regrown d1
      have k2 := cell_regrown d2
      have HD0 := hide d0
      have HLL := hide hL
      clear hRw' eu hrc hrl' hH8 h3 h5 h6 h7 h8 h9 hI r0 r1 e2 hN hV0 hlh d0 d1 d2 hSk hhd hll hL
      go_upto_region 1 with fail
      refine wp_region_quiet_below (by kernel_rfl) (by kernel_rfl) ?_
      repeat (go_big_quiet_step (first
        | (go_at_call 32; exact Calls.regrown_of (unhide HC _ (below_regrown _ _ _)))))
      refine wpQuiet_nil ?_
      intro w' hw'
      have hB : Below wr.heap.size wr w' := by obtain ⟨p, rfl⟩ := hw'; exact below_regrown _ _ _
      clear hw' k0 k1 k2
      have hMo' := (unhide HI).1.later hB
      have HMo := hide hMo'
      by_cases ho : V0 = 0
      · subst ho
        have hx : (hAt L 0).r = x := by
          have hz : (hAt L 0).r ∈ restR Yk.runs L := by
            unfold restR
            exact List.mem_flatten.2 ⟨_, List.mem_map.2 ⟨hAt L 0, hAt_mem (unhide HLL), rfl⟩, by simp⟩
          exact rows_same (unhide HV) ((unhide HI).2.mi.cln _ (.inr hz)) ((unhide HI).2.mi.cln x (.inl (by simp)))
        have HXX := hide hx
        obtain ⟨F2, p1, p2, p3, p4⟩ := hMo'
        obtain ⟨g1, g2, G0, vG, g3, g4, g5, g6, g7, g8, g9⟩ := p3
        have hhd := (unhide HI).2.mi.held
        have hll := (unhide HI).2.mi.ll
        obtain ⟨y0, hLet⟩ := let_yo g6 (by omega) (by omega)
        have f0 := g7.c0
        have HLet : Hid (Calls Tryz.prog 152 #[.pointer (some ⟨b, 0, none⟩), .int .i64 1] w' fun e w2 => e = .returned (.tuple #[]) ∧ Mo w w2 b y m mg B [] (Yk.hold (-1)) op L F) := hLet.mono fun e w2 q => ⟨q.1, ⟨F2, p1, p2, ⟨g1, g2, G0, vG, g3, g4, g5, g6, g7, g8, g9⟩, p4⟩ |> fun (hq : Mo w w' b y m mg B [] Yk op L F) => by
          obtain ⟨F3, b1, b2, b3, b4⟩ := Mw.under g1 g2 g3 g4 g5 g7 g8 g9 q.2
          exact ⟨F3, p1.trans b1 p4.size, fun k hk => b2 k (p2 k hk), b3, p4.trans b4 p1⟩⟩
        have HB1 := hide hb
        have HRL := hide hrl
        clear hx hLet g3 g5 g6 g7 g8 g9 p1 p2 p4 g1 g2 g4 hhd hll
        go_upto_region 4 with (first
          | (go_at_call 152; refine (unhide HLet).mono ?_; rintro _ w2 ⟨rfl, hM2⟩; have HM2 := hide hM2; clear hM2; have HST : Hid (∀ (F4 : Nat → Prop), Mw w2 b y m mg B [] (Yk.hold (-1)) op L F4 → Calls Tryz.prog 67 #[.pointer (some ⟨mg, 0, none⟩)] w2 fun e w' => ∃ (Y1 : Yv) (L' : List Hd) (c : Int), e = .returned (.int .i64 c) ∧ Mo w2 w' b y m mg B [] Y1 op L' F4 ∧ ((c = 0 ∧ Stp ids S BU Y (Yk.hold (-1)) Y1 L L' 0) ∨ (c = Y.cd ∧ Rf1 ids S BU Y Y1))) := fun F4 q => step_m1 q (unhide HI).2.mi.let_ (unhide HLL) (unhide HB1) hb2 (unhide HRL) (unhide HCD) (unhide HOP) (unhide HSS); have HEX : Hid (∃ F4, Nw F F4 w ∧ (∀ k, F k → F4 k) ∧ Mw w2 b y m mg B [] (Yk.hold (-1)) op L F4 ∧ Ky F w w2) := unhide HM2)
          | (go_at_call 67; obtain ⟨F4, q1, q2, q3, q4⟩ := unhide HEX; refine (unhide HST F4 q3).mono ?_; rintro _ w3 ⟨Y3, L3, c3, rfl, hM3, hc3⟩; have hMw : Mo w w3 b y m mg B [] Y3 op L3 F := (by obtain ⟨F5, b1, b2, b3, b4⟩ := hM3; exact ⟨F5, q1.trans b1 q4.size, fun k hk => b2 k (q2 k hk), b3, q4.trans b4 q1⟩); have HM3 := hide hMw; have HC3 := hide hc3; clear hM3 hc3 hMw q1 q2 q3 q4))
        rcases unhide HC3 with ⟨rfl, hs⟩ | ⟨rfl, hR⟩
        · have HN := hide ((unhide HI).2.next (by omega) hs (unhide HXX))
          clear hs HC3
          go_wp2
          go_roundw
          case rel => exact ⟨Y3, L3, j + 1, unhide HM3, unhide HN⟩
          case measure =>
            obtain ⟨F5, hF5⟩ := (unhide HM3).yw
            rw [measS_of hF5, unhide HME, (unhide HN).cl, (unhide HI).2.cl]
            have e1 := (unhide HN).left
            omega
        · have hcd' : (Y.cd != 0) = true := by simpa using (unhide HCD)
          have HR := hide hR
          clear hR HC3
          go_wp2
          go_ret
          exact ⟨Y3, L3, Y.cd, rfl, unhide HM3, .inr ⟨rfl, unhide HR⟩⟩
      · have jo : (V0 == 0) = false := by simpa using ho
        have HO1 := hide ho
        clear ho hMo'
        go_wp2
        go_ret
        exact ⟨Yk, L, 0, rfl, unhide HMo, .inl ⟨rfl, (unhide HI).2.mi.only fun _ => by rw [unhide HV]; exact unhide HO1⟩⟩
    · have hL0 : L.length = 0 := by omega
      have HL0 := hide hL0
      rw [hL0] at d2
      clear hL0 h3 h5 h6 h7 h8 h9 hI hSk hL eH hhd hll
      have k2 := cell_regrown d2
      clear d2
      go_upto_region 1 with fail
      refine wp_region_quiet_below (by kernel_rfl) (by kernel_rfl) ?_
      repeat (go_big_quiet_step (fail))
      refine wpQuiet_nil ?_
      intro w' hw'
      have hB : Below wr.heap.size wr w' := by obtain ⟨p, rfl⟩ := hw'; exact below_regrown _ _ _
      clear hw' k2
      go_wp2
      go_ret
      exact ⟨Yk, L, 0, rfl, (unhide HI).1.later hB, .inl ⟨rfl, (unhide HI).2.mi.only fun q => by have := unhide HL0; omega⟩⟩
end Go.Proofs.YtcbenpodohjbiaaGreat

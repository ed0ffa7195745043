import Derived.Test.YtjnggnhgambmkaaGreatMmM
import Derived.Test.YtjnggnhgambmkaaGreatMmF
import Derived.Test.YtjnggnhgambmkaaGreatMmI
import Derived.Test.YtjnggnhgambmkaaGreatTabB
import Derived.Test.YtjnggnhgambmkaaGreatVecO
import Derived.Test.YtjnggnhgambmkaaGreatVecQ
import Derived.Great.BuildSlice
import Derived.Test.YtjnggnhgambmkaaGreatMmA
set_option linter.unusedSimpArgs false
set_option linter.unusedVariables false
set_option maxRecDepth 100000
namespace Go.Proofs.YtjnggnhgambmkaaGreat
open Go.RowKit Go.Sort

/-- spoiltRows, under way: the rows' list is as it was, the rows from i on are still their own. -/
structure SrI (w wr : World) (base : Nat) (v : Value) (n m i : Nat) (cs : List Value) : Prop where
  own : wr.ownsRow base 22 1 v n cs
  row : ∀ (j : Nat) u, cs[j]? = some u → ∃ g zs, u = .slice (some ⟨g, 0, none⟩) m m ∧ (i ≤ j → wr.ownsRow base 38 3 u m zs) ∧ g ≠ v.ownBlock.getD (g + 1)
  ap : ∀ (j j' : Nat) u u', j < j' → cs[j]? = some u → cs[j']? = some u' → u.ownBlock ≠ u'.ownBlock
  ky : Ky (fun q => base ≤ q) w wr
theorem SrI.start {w : World} {base : Nat} {v : Value} {n m : Nat} {cs : List Value} (h1 : w.ownsRow base 22 1 v n cs) (h2 : ∀ (j : Nat) u, cs[j]? = some u → ∃ g zs, u = .slice (some ⟨g, 0, none⟩) m m ∧ w.ownsRow base 38 3 u m zs) (h3 : ∀ (j j' : Nat) u u', j < j' → cs[j]? = some u → cs[j']? = some u' → u.ownBlock ≠ u'.ownBlock) : SrI w w base v n m 0 cs := by
  refine ⟨h1, fun j u hu => ?_, h3, Ky.of_below (Below.refl _ _)⟩
  obtain ⟨g, zs, e, ho⟩ := h2 j u hu
  refine ⟨g, zs, e, fun _ => ho, fun hg => ?_⟩
  cases hv : v.ownBlock with
  | none => rw [hv] at hg; simp at hg
  | some q =>
    rw [hv] at hg
    simp at hg
    subst hg
    exact own_diff ho h1 (by decide) g (by rw [e]; rfl) hv
theorem SrI.later {w wr w' : World} {base : Nat} {v : Value} {n m i : Nat} {cs : List Value} (h : SrI w wr base v n m i cs) (hb : Below wr.heap.size wr w') : SrI w w' base v n m i cs := by
  refine ⟨own_later h.own hb, fun j u hu => ?_, h.ap, h.ky.trans (Ky.of_below hb)⟩
  obtain ⟨g, zs, e, ho, hn⟩ := h.row j u hu
  exact ⟨g, zs, e, fun hj => own_later (ho hj) hb, hn⟩
theorem SrI.step {w wr w' : World} {base g : Nat} {v : Value} {n m i : Nat} {cs : List Value} (h : SrI w wr base v n m i cs) (hu : cs[i]? = some (.slice (some ⟨g, 0, none⟩) m m)) (hg : wr.grownBy w' (some g)) : SrI w w' base v n m (i + 1) cs := by
  obtain ⟨g1, zs1, e1, ho1, hn1⟩ := h.row i _ hu
  injection e1 with e1
  injection e1 with e1
  injection e1 with e1
  subst e1
  have hbase := (World.ownsRow.lt (ho1 (Nat.le_refl _)) g rfl).1
  refine ⟨own_keep h.own fun q hq => hg.block q (World.ownsRow.lt h.own q hq).2 fun e => ?_, fun j u hu' => ?_, h.ap, h.ky.trans (Ky.of_grown hg fun q hq => by injection hq with hq; rw [← hq]; exact hbase)⟩
  · injection e with e
    subst e
    rw [hq] at hn1
    exact hn1 rfl
  · obtain ⟨g2, zs2, e2, ho2, hn2⟩ := h.row j u hu'
    refine ⟨g2, zs2, e2, fun hj => own_keep (ho2 (by omega)) fun q hq => hg.block q (World.ownsRow.lt (ho2 (by omega)) q hq).2 fun e => ?_, hn2⟩
    have := h.ap i j _ u (by omega) hu hu'
    rw [hq, e] at this
    exact this rfl

set_option maxHeartbeats 4000000 in
theorem spoiltrows_any {w : World} {base n : Nat} {v : Value} (h : RowsO w base v n) (hl : n ≤ 1048576) : Calls Tryz.prog 18 #[v] w fun e w' => e = .returned (.tuple #[]) ∧ Ky (fun q => base ≤ q) w w' := by
  obtain ⟨m, cs, hm, h1, h2, h3⟩ := h
  have HS0 := hide (SrI.start h1 h2 h3)
  have hcl : cs.length = n := by have := h1.1; omega
  have HCL := hide hcl
  obtain ⟨aV, cV, hV⟩ := own_slice h1
  subst hV
  clear h1 h2 h3 hcl
  have K10 := hide mark_any
  go_enter Tryz.func18, Tryz.ntmps18
  go_wp2_with fail
  go_loopw [6] (fun s6 wr => ∃ i : Nat, s6 = .int .i64 (i : Int) ∧ i ≤ n ∧ Hid (SrI w wr base (.slice aV n cV) n m i cs)) (fun s _ => n - (intOf s).toNat)
  case atStart => exact ⟨0, rfl, Nat.zero_le _, HS0⟩
  case round =>
    obtain ⟨i, rfl, hin, HS⟩ := hrel
    clear HS0
    by_cases hi : i < n
    · have hx : cs[i]? = some (cs[i]'(by rw [unhide HCL]; exact hi)) := List.getElem?_eq_getElem _
      obtain ⟨u, hu⟩ : ∃ u, cs[i]? = some u := ⟨_, hx⟩
      clear hx
      obtain ⟨g, zs, e, ho, hn⟩ := (unhide HS).row i u hu
      subst e
      obtain ⟨gV, hgV⟩ : ∃ gV, aV = some ⟨gV, 0, none⟩ := by
        rcases (unhide HS).own.2 with ⟨_, h0⟩ | ⟨g, cap, cur, e, _⟩
        · omega
        · injection e with e _ _; exact ⟨g, e⟩
      subst hgV
      have c0 : wr.cell? ⟨gV, i, none⟩ = some (.slice (some ⟨g, 0, none⟩) m m) := (World.ownsRow.cellAt (unhide HS).own i (by omega)).trans hu
      have HU := hide hu
      have HCH : Hid (∀ w1, Below wr.heap.size wr w1 → Calls Tryz.prog 9 #[.slice (some ⟨g, 0, none⟩) m m, .agg #[.int .i64 2, .int .i64 0, .string ⟨#[115, 112, 111, 105, 108, 116]⟩]] w1 fun e w2 => e = .returned (.tuple #[]) ∧ SrI w w2 base (.slice (some ⟨gV, 0, none⟩) n cV) n m (i + 1) cs) := fun w1 hb => by
        refine (spoiltV (own_later (ho (Nat.le_refl _)) hb) (by omega) markV).mono ?_
        rintro e w2 ⟨rfl, hg⟩
        exact ⟨rfl, ((unhide HS).later hb).step (unhide HU) hg⟩
      have i1 : (i : Int) < (n : Int) := by omega
      clear ho hn hu
      go_wp2_with (first
        | (go_at_call 10; refine (unhide K10 _).mono ?_; rintro _ w1 ⟨rfl, hb1⟩)
        | (go_at_call 9; refine (unhide HCH _ hb1).mono ?_; rintro _ w2 ⟨rfl, HS2⟩; replace HS2 := hide HS2))
      go_roundw
      case rel => exact ⟨i + 1, by go_num, by omega, HS2⟩
      case measure => simp [intOf]; omega
    · have i1 : ¬ (i : Int) < (n : Int) := by omega
      have HCH : Hid (∀ w1, Below wr.heap.size wr w1 → ∀ ax nx cx, Calls Tryz.prog 35 #[.slice aV n cV, .slice ax nx cx] w1 fun e w2 => e = .returned (.tuple #[]) ∧ Ky (fun q => base ≤ q) w w2) := fun w1 hb ax nx cx => by
        have ho := own_later (unhide HS).own hb
        refine (spoiltR ho (by omega) ax nx cx).mono ?_
        rintro e w2 ⟨rfl, hg⟩
        exact ⟨rfl, ((unhide HS).ky.trans (Ky.of_below hb)).trans (Ky.of_grown hg fun q hq => (World.ownsRow.lt ho q hq).1)⟩
      clear HS
      go_wp2_with (first
        | (go_at_call 10; refine (unhide K10 _).mono ?_; rintro _ w1 ⟨rfl, hb1⟩)
        | (go_at_call 35; refine (unhide HCH _ (below_alloc hb1 _) _ _ _).mono ?_; rintro _ w2 ⟨rfl, HF⟩; replace HF := hide HF))
      go_end0
      exact ⟨rfl, unhide HF⟩
end Go.Proofs.YtjnggnhgambmkaaGreat
set_option linter.unusedSimpArgs false
set_option linter.unusedVariables false
set_option maxRecDepth 100000
namespace Go.Proofs.YtjnggnhgambmkaaGreat
open Go.RowKit Go.Sort

def upto (n : Nat) (X : Vc) : Prop := X.nl.length ≤ n ∧ X.ns.length ≤ n ∧ X.ss.length ≤ n
theorem laid_upto (k : Int) (ys : List Val) : upto ys.length (laidV k ys) := by
  unfold laidV upto nlOf
  refine ⟨by simp, ?_, ?_⟩
  · by_cases h : k = 1 <;> simp [h]
  · by_cases h : k = 1 <;> simp [h]
theorem zero_upto (n : Nat) : upto n Vc.zero := ⟨Nat.zero_le _, Nat.zero_le _, Nat.zero_le _⟩
theorem pick_upto (X : Vc) (pl : List Int) : upto pl.length (pickV X pl).1 := by
  unfold pickV
  split
  · exact zero_upto _
  split
  · exact zero_upto _
  have := laid_upto X.k (pickL X pl)
  rwa [pickL, List.length_map] at this
theorem join_upto (X : Vc) {n : Nat} (hn : X.nl.length ≤ n) : upto (n + n) (joinedV X X).1 := by
  unfold joinedV
  split
  · exact zero_upto _
  split
  · exact zero_upto _
  have h := laid_upto X.k (valsV X ++ valsV X)
  have h2 := vals_le X
  rw [List.length_append] at h
  exact ⟨Nat.le_trans h.1 (by omega), Nat.le_trans h.2.1 (by omega), Nat.le_trans h.2.2 (by omega)⟩
theorem tab_two {X : Vc} {p : Sl} (hg : goodB X = true) : (tabV [(X, p), (X, p)]).2 = 0 ∧ (tabV [(X, p), (X, p)]).1.length = X.nl.length := by
  have e : ([(X, p), (X, p)] : List (Vc × Sl)).any (badC (len0 [(X, p), (X, p)])) = false := by simp [badC, len0, hg]
  unfold tabV
  rw [e]
  exact ⟨rfl, by simp [rowsOf, len0]⟩
theorem ownV_view {w W : World} {v : Value} {ys : List Val} (h : OwnV w W.heap.size v ys) : ∃ a c, v = .slice a ys.length c ∧ (a = none → c = 0) ∧ (Vw.row W.heap.size w.heap.size a ys).P w := by
  obtain ⟨a, c, rfl, hr⟩ := ownV_row h
  exact ⟨a, c, rfl, own_nil h, hr, fun ad e => World.ownsRow.lt h ad.block (by rw [e]; rfl)⟩
theorem ownI_view {w W : World} {v : Value} {zs : List Int} (h : w.ownsRow W.heap.size 3 1 v zs.length (zs.map (.int .i64))) : ∃ a c, v = .slice a zs.length c ∧ (a = none → c = 0) ∧ (Vw.lis W.heap.size w.heap.size a (zs.map (.int .i64))).P w := by
  obtain ⟨a, c, rfl⟩ := own_slice h
  exact ⟨a, c, rfl, own_nil h, own_lis h, fun ad e => World.ownsRow.lt h ad.block (by rw [e]; rfl)⟩
/-- A box below the newest is stored into. -/
theorem StO.put1 {w0 w : World} {VB : List Vw} {u : Vw} {b : Nat} {X Y : Vc} {p q : Sl} (h : StO w0 w (u :: Vw.bx b X p :: VB)) : StO w0 ((((w.setCell ⟨b, 0, none⟩ (.int .i64 Y.k)).setCell ⟨b, 1, none⟩ (.slice q.a1 Y.nl.length q.c1)).setCell ⟨b, 2, none⟩ (.slice q.a2 Y.ns.length q.c2)).setCell ⟨b, 3, none⟩ (.slice q.a3 Y.ss.length q.c3)) (u :: Vw.bx b Y q :: VB) := by
  have hk := ky_set4 w b (.int .i64 Y.k) (.slice q.a1 Y.nl.length q.c1) (.slice q.a2 Y.ns.length q.c2) (.slice q.a3 Y.ss.length q.c3)
  have h1 := h.spoil 1 (v := Vw.bx b X p) rfl hk fun r _ hr => by subst hr; exact ⟨Nat.le_refl _, Nat.lt_succ_self _⟩
  have h2 := h.all _ (List.mem_cons_of_mem _ List.mem_cons_self)
  obtain ⟨a1, a2⟩ := List.pairwise_cons.1 h.apart
  obtain ⟨a3, a4⟩ := List.pairwise_cons.1 a2
  refine ⟨h1.bel, fun v hv => ?_, List.pairwise_cons.2 ⟨fun v hv => ?_, List.pairwise_cons.2 ⟨a3, a4⟩⟩⟩
  · rcases List.mem_cons.1 hv with rfl | hv
    · exact h1.all _ List.mem_cons_self
    rcases List.mem_cons.1 hv with rfl | hv
    · exact ⟨h2.1, Nat.le_trans h2.2.1 hk.size, box4_set h2.2.2⟩
    · exact h1.all v (List.mem_cons_of_mem _ hv)
  · rcases List.mem_cons.1 hv with rfl | hv
    · exact a1 (Vw.bx b X p) List.mem_cons_self
    · exact a1 v (List.mem_cons_of_mem _ hv)
/-- append([]int{}, l...), where the empty list was made ahead of l. -/
theorem copy_later (W w1 : World) (hb1 : Below (W.alloc (.cells #[] 3)).heap.size (W.alloc (.cells #[] 3)) w1) (zs : List Int) (c : Nat) (a : Option Addr) (hla : LisAt w1 a (zs.map (.int .i64))) (hn : a = none → c = 0) (hl : zs.length ≤ 4194304) :
    ∃ T w', (Builtin.append_ #[23, 23] 23 #[.slice (some ⟨W.heap.size, 0, none⟩) 0 0, .slice a zs.length c]).run Tryz.prog w1 = .ok T w' ∧ w'.ownsRow W.heap.size 3 1 T zs.length (zs.map (.int .i64)) ∧ Below W.heap.size W w' := by
  obtain ⟨i2, hi2, z20, z21, z22⟩ := info_parts Tryz.info3
  have hE : w1.ownsRow W.heap.size 3 1 (.slice (some ⟨W.heap.size, 0, none⟩) 0 0) 0 [] := own_later
    ⟨rfl, .inr ⟨W.heap.size, 0, #[], rfl, Nat.le_refl _, by show (W.heap.push _)[W.heap.size]? = _; rw [Array.getElem?_push_size], Nat.le_refl _, Nat.zero_le _, rfl, rfl⟩⟩ hb1
  have hb : Below W.heap.size W w1 := below_one hb1
  have hc := lis_cells hla
  rw [List.length_map] at hc
  have hone : ∀ u ∈ zs.map (Value.int .i64), u.oneCell' = true := fun u hu => by obtain ⟨y, _, rfl⟩ := List.mem_map.1 hu; rfl
  cases a with
  | none =>
    have h0 : zs.length = 0 := by
      rcases hc with h | ⟨ad, h, _⟩
      · exact h
      · cases h
    obtain rfl : zs = [] := List.eq_nil_of_length_eq_zero h0
    obtain rfl := hn rfl
    exact ⟨_, _, run_append_owned_none (P := Tryz.prog) _ W.heap.size 23 23 3 i2 1 Tryz.underlying23 hi2 _ 0 [] hE, hE, hb⟩
  | some ad =>
    have hcells : ∀ j u, (zs.map (Value.int .i64))[j]? = some u → w1.cell? (ad.add j) = some u := by
      rcases hc with h | ⟨ad', h, h2⟩
      · obtain rfl : zs = [] := List.eq_nil_of_length_eq_zero h
        intro j u hu; simp at hu
      · injection h with h
        subst h
        exact h2
    obtain ⟨T, w', hr, h2, h3, _, h5⟩ := run_append_own_at (P := Tryz.prog) (w := w1) W.heap.size 23 23 3 i2 (.int .i64 0) 1 8 Tryz.underlying23 hi2 z20 z21 z22 rfl (by decide) _ 0 [] hE ad zs.length c (zs.map (.int .i64)) (by simp) hcells hone (by unfold maxLen; omega) (by omega) hb.size
    rw [Nat.zero_add, List.nil_append] at h2
    refine ⟨T, w', hr, h2, ?_⟩
    refine ⟨h3.os.trans hb.os, h3.tape.trans hb.tape, h3.output.trans hb.output, Nat.le_trans hb.size h3.size, fun q hq => ?_⟩
    rw [h3.block q (Nat.lt_of_lt_of_le hq hb.size) (by simp [Value.ownBlock]; omega)]
    exact hb.block q hq
/-- Two columns in a list that is made. -/
theorem cols_two (w : World) (X : Vc) (p : Sl) (hp : VecAt w X p) {W : World} (hW : w.alloc (.cells #[.int .i64 X.k, .slice p.a1 X.nl.length p.c1, .slice p.a2 X.ns.length p.c2, .slice p.a3 X.ss.length p.c3, .int .i64 X.k, .slice p.a1 X.nl.length p.c1, .slice p.a2 X.ns.length p.c2, .slice p.a3 X.ss.length p.c3] 29) = W) : ColsAt W (some ⟨w.heap.size, 0, none⟩) [(X, p), (X, p)] ∧ Below w.heap.size w W := by
  have hb : Below w.heap.size w W := by rw [← hW]; exact below_alloc (Below.refl _ _) _
  have hc : W.heap[w.heap.size]? = some (.cells #[.int .i64 X.k, .slice p.a1 X.nl.length p.c1, .slice p.a2 X.ns.length p.c2, .slice p.a3 X.ss.length p.c3, .int .i64 X.k, .slice p.a1 X.nl.length p.c1, .slice p.a2 X.ns.length p.c2, .slice p.a3 X.ss.length p.c3] 29 (0, 0)) := by
    rw [← hW]; show (w.heap.push _)[w.heap.size]? = _; rw [Array.getElem?_push_size]
  refine ⟨⟨.inr ⟨w.heap.size, 0, rfl, fun i c hi => ?_⟩, fun c hc => ?_⟩, hb⟩
  · rcases i with _ | _ | i
    · simp only [List.getElem?_cons_zero, Option.some.injEq] at hi
      subst hi
      refine ⟨?_, ?_, ?_, ?_⟩ <;> simp [World.cell?, hc]
    · simp only [List.getElem?_cons_succ, List.getElem?_cons_zero, Option.some.injEq] at hi
      subst hi
      refine ⟨?_, ?_, ?_, ?_⟩ <;> simp [World.cell?, hc]
    · simp at hi
  · have : c = (X, p) := by simpa using hc
    subst this
    exact hp.later hb
theorem table_two {X : Vc} {p : Sl} {W : World} {b : Nat} (hc : ColsAt W (some ⟨b, 0, none⟩) [(X, p), (X, p)]) (hs : small X) (h20 : X.nl.length ≤ 1048576) (hg : goodB X = true) :
    Calls Tryz.prog 17 #[.slice (some ⟨b, 0, none⟩) 2 2] W fun e w' => ∃ v, e = .returned (.tuple #[v, .int .i64 0]) ∧ RowsO w' W.heap.size v X.nl.length ∧ Below W.heap.size W w' := by
  have hall : ∀ c ∈ ([(X, p), (X, p)] : List (Vc × Sl)), c = (X, p) := fun c hc => by simpa using hc
  have K := table_any (some ⟨b, 0, none⟩) 2 [(X, p), (X, p)] W (by simp) (fun c hc => by rw [hall c hc]; exact hs) (fun c hc => by rw [hall c hc]; exact h20) hc
  obtain ⟨h0, hl⟩ := tab_two (X := X) (p := p) hg
  rw [h0, hl] at K
  exact K.mono fun e w' ⟨v, h1, h2, h3⟩ => ⟨v, h1, h2.2, h3⟩
end Go.Proofs.YtjnggnhgambmkaaGreat
set_option linter.unusedSimpArgs false
set_option linter.unusedVariables false
set_option maxRecDepth 100000
namespace Go.Proofs.YtjnggnhgambmkaaGreat
open Go.RowKit Go.Sort
theorem Tryz.info29 : (Tryz.prog.info? 29).map (fun i => (i.zero, i.size)) = some (some (.agg #[.int .i64 0, .slice none 0 0, .slice none 0 0, .slice none 0 0]), 4) := by kernel_rfl
/-- []Vec{v, v} -/
theorem run_two (W : World) (X : Vc) (p : Sl) : (Instr.buildSlice 49 2 #[(0, vecV X p), (1, vecV X p)]).run Tryz.prog W = .ok (.slice (some ⟨W.heap.size, 0, none⟩) 2 2) (W.alloc (.cells #[.int .i64 X.k, .slice p.a1 X.nl.length p.c1, .slice p.a2 X.ns.length p.c2, .slice p.a3 X.ss.length p.c3, .int .i64 X.k, .slice p.a1 X.nl.length p.c1, .slice p.a2 X.ns.length p.c2, .slice p.a3 X.ss.length p.c3] 29)) := by
  have h := Tryz.info29
  cases hie : Tryz.prog.info? 29 with
  | none => rw [hie] at h; cases h
  | some ie =>
    rw [hie] at h
    simp only [Option.map_some, Option.some.injEq, Prod.mk.injEq] at h
    obtain ⟨hz, hs⟩ := h
    refine run_buildSlice W 49 29 2 _ _ ie _ Tryz.underlying49 hie hz (by rw [hs]; decide) (by rw [hs]; decide) ?_
    rw [hs]
    first | kernel_rfl | (simp [Instr.fill, vecV, Value.cells, Array.range])
theorem wpList_two {ops : Array Oper} {rest : List Oper} {o : Oper} {a : Act} {w : World} {Q : Exit → Act → World → Prop} (hg : o.guard = none) (x y : Operand) (ho : o.op = .buildSlice 49 2 #[(0, x), (1, y)]) (X : Vc) (p : Sl) (hx : a.eval x = vecV X p) (hy : a.eval y = vecV X p)
    (h : wpList Tryz.prog ops Q rest (a.put o.dst (.slice (some ⟨w.heap.size, 0, none⟩) 2 2)) (w.alloc (.cells #[.int .i64 X.k, .slice p.a1 X.nl.length p.c1, .slice p.a2 X.ns.length p.c2, .slice p.a3 X.ss.length p.c3, .int .i64 X.k, .slice p.a1 X.nl.length p.c1, .slice p.a2 X.ns.length p.c2, .slice p.a3 X.ss.length p.c3] 29))) : wpList Tryz.prog ops Q (o :: rest) a w :=
  wpList_plain hg fun _ hK => by
    have hr := run_two w X p
    have e : (#[(0, x), (1, y)] : Array (Nat × Operand)).map (fun (i, x) => (i, a.eval x)) = #[(0, vecV X p), (1, vecV X p)] := by simp [hx, hy]
    unfold Oper.wp execOp
    simp only [ho, Sem.run_bind, e, hr, Result.andThen_ok]
    exact hK _ _ h
end Go.Proofs.YtjnggnhgambmkaaGreat
set_option linter.unusedSimpArgs false
set_option linter.unusedVariables false
set_option maxRecDepth 100000
namespace Go.Proofs.YtjnggnhgambmkaaGreat
open Go.RowKit Go.Sort

set_option maxHeartbeats 4000000 in
theorem spoiltI {w : World} {base n : Nat} {S : Value} {ys : List Value} (ho : w.ownsRow base 3 1 S n ys) (hl : n ≤ 2097152) (x : Int) : Calls Tryz.prog 16 #[S, .int .i64 x] w fun e w' => e = .returned (.tuple #[]) ∧ w.grownBy w' S.ownBlock := by
  have HS0 := hide (SpS.start ho)
  obtain ⟨aS, cS, hS⟩ := own_slice ho
  subst hS
  clear ho
  have HAP := hide app_okI
  have HC1 : Hid (∀ (W : World) j u, [.int .i64 x][j]? = some u → (W.alloc (.cells #[.int .i64 x] 3)).cell? ((⟨W.heap.size, 0, none⟩ : Addr).add j) = some u) := fun W j u hu => by
    rw [Addr.add_lit]
    match j, hu with
    | 0, hu => simp at hu; subst hu; simp [go_sem]
    | j + 1, hu => simp at hu
  have HO1 : Hid (∀ u ∈ ([.int .i64 x] : List Value), u.oneCell' = true) := fun u hu => by simp at hu; subst hu; rfl
  go_enter Tryz.func16, Tryz.ntmps16
  go_wp2_with fail
  go_loopw [11] (fun s11 wr => ∃ i : Nat, s11 = .int .i64 (i : Int) ∧ i ≤ n ∧ Hid (SpS 3 1 w wr (.slice aS n cS) n)) (fun s _ => n - (intOf s).toNat)
  case atStart => exact ⟨0, rfl, Nat.zero_le _, HS0⟩
  case round =>
    obtain ⟨i, rfl, hin, HS⟩ := hrel
    clear HS0
    by_cases hi : i < n
    · obtain ⟨g, cap, hg⟩ := (unhide HS).some (by omega)
      injection hg with hg _ hcap
      subst hg hcap
      obtain ⟨ec, ez⟩ := (unhide HS).facts
      obtain ⟨y, e0⟩ := ec i (by omega)
      have z0 := ez i
      have HS2 := hide ((unhide HS).set (j := i) (.int .i64 x))
      have i1 : (i : Int) < (n : Int) := by omega
      clear ez ec
      go_wp2
      go_roundw
      case rel => exact ⟨i + 1, by go_num, by omega, HS2⟩
      case measure => simp [intOf]; omega
    · obtain rfl : i = n := by omega
      have HT0 := hide (SpT.self (unhide HS))
      go_wp2_with fail
      go_loopw [5, 6] (fun s5 s6 wq => ∃ (j : Nat) (T : Value), s5 = T ∧ s6 = .int .i64 (j : Int) ∧ j ≤ 20 ∧ Hid (SpS 3 1 w wq (.slice aS i cS) i) ∧ Hid (SpT 3 1 w wq (.slice aS i cS) i T (i + j))) (fun _ s _ => 20 - (intOf s).toNat)
      case atStart => exact ⟨0, _, rfl, rfl, Nat.zero_le _, HS, HT0⟩
      case round =>
        obtain ⟨j, T, rfl, rfl, hj, HQ, HT⟩ := hrel
        clear HS HT0
        obtain ⟨aT, cT, hT⟩ := (unhide HT).slice
        subst hT
        by_cases hj2 : j < 20
        · have hb : Below wr.heap.size wr (wr.alloc (.cells #[.int .i64 x] 3)) := below_alloc (Below.refl _ _) _
          obtain ⟨T', w', hrun, hQ', hT', _⟩ := SpT.app (c := 1) (unhide HAP) ((unhide HQ).later hb) ((unhide HT).later hb) 23 ⟨wr.heap.size, 0, none⟩ (m := 1) (ys := [.int .i64 x]) rfl (unhide HC1 wr) (unhide HO1) (by omega) (by omega)
          have HQ' := hide hQ'
          have HT' := hide hT'
          have i1 : (j : Int) < 20 := by omega
          clear hQ' hT' hb
          go_wp2_with (at_builtin; refine wpList_app_run rfl (.tmp 24) (.tmp 26) 23 rfl _ _ rfl rfl hrun ?_)
          go_roundw
          case rel => exact ⟨j + 1, T', rfl, by go_num, by omega, HQ', HT'⟩
          case measure => simp [intOf]; omega
        · have i1 : ¬ (j : Int) < 20 := by omega
          clear HT
          go_wp2_with fail
          go_loopw [7, 8] (fun s7 s8 wq => ∃ (j : Nat) (M : Value), M = s7 ∧ s8 = .int .i64 (j : Int) ∧ j ≤ 64 ∧ Hid (SpS 3 1 w wq (.slice aS i cS) i) ∧ Hid (Mm 3 1 w wq M j)) (fun _ s _ => 64 - (intOf s).toNat)
          case atStart => exact ⟨0, _, rfl, rfl, Nat.zero_le _, HQ, Mm.nil⟩
          case round =>
            obtain ⟨q, M, rfl, rfl, hq, HR, HM⟩ := hrel
            clear HQ i1
            obtain ⟨aM, cM, hMs⟩ := (unhide HM).slice
            subst hMs
            by_cases hq2 : q < 64
            · have hb : Below wr.heap.size wr (wr.alloc (.cells #[.int .i64 x] 3)) := below_alloc (Below.refl _ _) _
              obtain ⟨M', w', hrun, hR', hM'⟩ := Mm.step (c := 1) (unhide HAP) (unhide HR) (unhide HM) hb 23 ⟨wr.heap.size, 0, none⟩ (ys := [.int .i64 x]) rfl (unhide HC1 wr) (unhide HO1) (by omega)
              have HR' := hide hR'
              have HM' := hide hM'
              have i1 : (q : Int) < 64 := by omega
              clear hR' hM' hb
              go_wp2_with (at_builtin; refine wpList_app_run rfl (.tmp 32) (.tmp 34) 23 rfl _ _ rfl rfl hrun ?_)
              go_roundw
              case rel => exact ⟨q + 1, M', rfl, by go_num, by omega, HR', HM'⟩
              case measure => simp [intOf]; omega
            · obtain rfl : q = 64 := by omega
              obtain ⟨T', w', hrun, hF⟩ := Mm.last (M := .slice aM 64 cM) (unhide HAP) (unhide HR) (unhide HM) (by omega) 23 (by omega)
              have HF := hide hF
              clear hF
              go_wp2_with (at_builtin; refine wpList_app_run rfl (.tmp 36) (.tmp 37) 23 rfl _ _ rfl rfl hrun ?_)
              go_end0
              exact ⟨rfl, unhide HF⟩
end Go.Proofs.YtjnggnhgambmkaaGreat

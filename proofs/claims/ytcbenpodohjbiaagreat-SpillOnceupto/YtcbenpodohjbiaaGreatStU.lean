import Derived.Test.YtcbenpodohjbiaaGreatStI
import Derived.Test.YtcbenpodohjbiaaGreatEvA
import Derived.Test.YtcbenpodohjbiaaGreatTbH
import Derived.Test.YtcbenpodohjbiaaGreatPlA
set_option linter.unusedSimpArgs false
set_option linter.unusedVariables false
set_option maxRecDepth 100000
namespace Go.Proofs.YtcbenpodohjbiaaGreat
open Go.RowKit Go.Sort

theorem info52 : (Tryz.prog.info? 70).map (fun i => (i.zero, i.size, i.bytes)) = some (some (.slice none 0 0), 1, 24) := by kernel_rfl
/-- append(l, y) of rows, where y stands in a list of one that was made for it. -/
theorem wpList_push_row {ops : Array Oper} {rest : List Oper} {o : Oper} {a : Act} {Q : Exit → Act → World → Prop} (w : World) (hgd : o.guard = none) (s x : Operand) (ho : o.op = .call { callee := .builtin .append, args := #[s, x], argTypes := #[22, 22] })
    (base : Nat) (v : Value) (L : List El) (hs : a.eval s = v) (hown : OwnR w base v L) (t : Nat) (y : El) (hx : a.eval x = .slice (some ⟨t, 0, none⟩) 1 1) (hy : w.cell? ⟨t, 0, none⟩ = some y.v) (hone : y.v.oneCell' = true) (hl : L.length + 1 ≤ 4398046511104) (hbase : base ≤ w.heap.size)
    (h : ∀ v' w', OwnR w' base v' (L ++ [y]) → Grew w w' v v' → wpList Tryz.prog ops Q rest (a.put o.dst v') w') : wpList Tryz.prog ops Q (o :: rest) a w := by
  obtain ⟨i4, hi4, z40, z41, z42⟩ := info_parts info52
  refine wpList_append_own_at w hgd s x 22 ho base 70 i4 (.slice none 0 0) 1 24 Tryz.underlying22 hi4 z40 z41 z42 rfl (by decide) v L.length (L.map El.v) hs hown ⟨t, 0, none⟩ 1 1 [y.v] hx rfl (fun j u hj => by
    match j, hj with
    | 0, hj => simp at hj; subst hj; simpa [Addr.add] using hy
    | j + 1, hj => simp at hj) (fun u hu => by simp at hu; subst hu; exact hone) (by unfold maxLen; omega) (by omega) hbase ?_
  intro v' w' h1 h2 _ h4
  refine h v' w' ?_ ⟨h2, h4.imp id fun e => ⟨_, e, Nat.le_refl _⟩⟩
  unfold OwnR
  rw [List.length_append, List.map_append]
  exact h1
theorem RowAt.blk {W : World} {b off : Nat} {r : List Val} (h : RowAt W (some ⟨b, off, none⟩) r) (hne : r ≠ []) : b < W.heap.size := by
  rcases h with h | ⟨b', off', e, h⟩
  · exact absurd h hne
  · injection e with e
    injection e with e1 e2
    subst e1
    cases r with
    | nil => exact absurd rfl hne
    | cons y r => exact World.block_lt_of_cell? _ _ (h 0 y rfl).1
theorem RowAt.kept {W W' : World} {a : Option Addr} {r : List Val} (h : RowAt W a r) (hk : ∀ b off j, a = some ⟨b, off, none⟩ → r ≠ [] → W'.cell? ⟨b, j, none⟩ = W.cell? ⟨b, j, none⟩) : RowAt W' a r := by
  by_cases e : r = []
  · exact .inl e
  rcases h with h | ⟨b, off, rfl, h⟩
  · exact .inl h
  · refine .inr ⟨b, off, rfl, fun i y hy => ?_⟩
    rw [hk b off _ rfl e, hk b off _ rfl e, hk b off _ rfl e]
    exact h i y hy
/-- Behind an append to the slice. -/
theorem RowV.push {W W' : World} {v v' : Value} {x : El} (h : RowV W v.ownBlock x) (hg : Grew W W' v v') : RowV W' v'.ownBlock x := by
  obtain ⟨a, c, h1, h2, h3, h3v⟩ := h
  refine ⟨a, c, h1, h2.kept fun b off j e hne => ?_, fun b off e hne => ?_, fun b off e hne => (h3v b off e hne).keep (hg.1.block b (h3v b off e hne).lt (fun q => h3 b off e hne q.symm))⟩
  · subst e
    exact grew_kept hg (h2.blk hne) (h3 b off rfl hne) j
  · subst e
    rcases hg.2 with h4 | ⟨q, h4, h5⟩
    · rw [h4]; exact h3 b off rfl hne
    · rw [h4]
      intro e
      injection e with e
      have := h2.blk hne
      omega
theorem grown_setR (w : World) (b o : Nat) (u : Value) : w.grownBy (w.setCell ⟨b, o, none⟩ u) (some b) := ⟨rfl, rfl, rfl, by simp [World.setCell], fun k hk hn => Below.heap_setCell _ _ _ _ (fun e => hn (by rw [e]))⟩
theorem RowV.set {W : World} {g : Option Nat} {x : El} {B : Nat} (h : RowV W g x) (hB : RowV W (some B) x) (u : Value) : RowV (W.setCell ⟨B, 0, none⟩ u) g x := by
  obtain ⟨a, c, h1, h2, h3, h3v⟩ := h
  obtain ⟨a', c', h1', _, h3', _⟩ := hB
  rw [h1] at h1'
  injection h1' with e1 _ e3
  subst e1 e3
  refine ⟨a, c, h1, h2.kept fun b off j e hne => ?_, h3, fun b off e hne => (h3v b off e hne).keep ((grown_setR W B 0 u).block b (h3v b off e hne).lt (fun q => h3' b off e hne q.symm))⟩
  have := h3' b off e hne
  exact World.cell?_of_block (a := ⟨b, j, none⟩) ((grown_setR W B 0 u).block b (by subst e; exact h2.blk hne) (fun e => this e.symm))
end Go.Proofs.YtcbenpodohjbiaaGreat
set_option linter.unusedSimpArgs false
set_option linter.unusedVariables false
set_option maxRecDepth 100000
namespace Go.Proofs.YtcbenpodohjbiaaGreat
open Go.RowKit Go.Sort

/-- Rows of the call's own, in the variable's box B. -/
structure BoxR (B : Nat) (w wr : World) (v : Value) (L : List El) : Prop where
  c : wr.cell? ⟨B, 0, none⟩ = some v
  f : wr.frozen? ⟨B, 0, none⟩ = false
  o : OwnR wr (B + 1) v L
  r : ∀ x ∈ L, RowV wr v.ownBlock x ∧ x.r.length ≤ maxLen
  b : ∀ x ∈ L, RowV wr (some B) x
  w : Below B w wr
theorem BoxR.later {B : Nat} {w wr w' : World} {v : Value} {L : List El} (h : BoxR B w wr v L) (hb : Below wr.heap.size wr w') : BoxR B w w' v L :=
  ⟨clater h.c hb, by rw [← h.f]; exact World.frozen?_of_block (a := ⟨B, 0, none⟩) (hb.block B (World.block_lt_of_cell? _ _ h.c)), h.o.later hb, fun x hx => ⟨(h.r x hx).1.later hb, (h.r x hx).2⟩, fun x hx => (h.b x hx).later hb, h.w.trans (hb.mono (Nat.le_of_lt (World.block_lt_of_cell? _ _ h.c)))⟩
theorem BoxR.push {B : Nat} {w wr w' : World} {v v' : Value} {L : List El} {y : El} (hB : B = w.heap.size) (h : BoxR B w wr v L) (ho : OwnR w' (B + 1) v' (L ++ [y])) (hg : Grew wr w' v v') (hy : RowV wr v.ownBlock y ∧ y.r.length ≤ maxLen) (hyB : RowV wr (some B) y) : BoxR B w (w'.setCell ⟨B, 0, none⟩ v') v' (L ++ [y]) := by
  have hlt : B < wr.heap.size := World.block_lt_of_cell? _ _ h.c
  have hvB : v.ownBlock ≠ some B := fun e => by have := (World.ownsRow.lt h.o B e).1; omega
  have hvB' : v'.ownBlock ≠ some B := fun e => by have := (World.ownsRow.lt ho B e).1; omega
  have hc' : w'.cell? ⟨B, 0, none⟩ = some v := by rw [grew_kept hg hlt hvB]; exact h.c
  have hrB : ∀ x, RowV wr v.ownBlock x → RowV wr (some B) x → RowV w' (some B) x := fun x h1 h2 => by
    obtain ⟨a, c, q1, q2, q3, q4⟩ := h1.push hg
    obtain ⟨a', c', q1', _, q3', _⟩ := h2
    rw [q1] at q1'
    injection q1' with e1 _ e3
    subst e1 e3
    exact ⟨a, c, q1, q2, q3', q4⟩
  have hall : ∀ x ∈ L ++ [y], RowV w' v'.ownBlock x ∧ RowV w' (some B) x ∧ x.r.length ≤ maxLen := fun x hx => by
    rcases List.mem_append.1 hx with hx | hx
    · exact ⟨(h.r x hx).1.push hg, hrB x (h.r x hx).1 (h.b x hx), (h.r x hx).2⟩
    · simp at hx
      subst hx
      exact ⟨hy.1.push hg, hrB _ hy.1 hyB, hy.2⟩
  have hgs := grown_setR w' B 0 v'
  refine ⟨?_, ?_, ?_, fun x hx => ⟨(hall x hx).1.set (hall x hx).2.1 _, (hall x hx).2.2⟩, fun x hx => (hall x hx).2.1.set (hall x hx).2.1 _, ?_⟩
  · simp [go_sem, hc']
  · rw [World.frozen?_setCell]
    have := h.f
    rw [← this]
    exact World.frozen?_of_block (a := ⟨B, 0, none⟩) (hg.1.block B hlt (fun e => hvB e.symm))
  · exact ho.kept (row := some B) hgs (.inr hvB')
  · have h1 : Below B wr w' := grown_below hg.1 (by have := h.w.size; omega) (fun g e => by have := (World.ownsRow.lt h.o g e).1; omega)
    exact (h.w.trans h1).trans (grown_below hgs (by have := h1.size; omega) (fun g e => by injection e with e; omega))

theorem newRow {w0 wr : World} {a6 : Option Addr} {c6 : Nat} {zs : List Val} (hO : OwnV wr w0.heap.size (.slice a6 zs.length c6) zs) (hrow : RowAt wr a6 zs) {g : Option Nat} (hg : ∀ b, g = some b → b < w0.heap.size) : RowV wr g ⟨.slice a6 zs.length c6, 0, zs⟩ :=
  ⟨a6, c6, rfl, hrow, fun b off e hne h => by
    subst e
    have h1 := ownV_ge hO b rfl
    have h2 := hg b h
    omega, fun b off e hne => by
    subst e
    rcases hO.2 with ⟨q, _⟩ | ⟨g', cap, cur, q, _, hh, _⟩
    · cases q
    · injection q with q _ _
      injection q with q
      injection q with q
      subst q
      exact ⟨cur, _, hh⟩⟩

set_option maxHeartbeats 4000000 in
/-- Sorted (18) of the document. -/
theorem rsorted_any (rs : List (List Val)) (aR : Option Addr) (cR : Nat) (w : World) (hn : rs.length ≤ 1048576) (hr : ∀ r ∈ rs, r.length ≤ 1048576) (ha : RowsT w aR rs) :
    Calls Tryz.prog 24 #[.slice aR rs.length cR] w fun e w' => ∃ v L, e = .returned v ∧ OwnR w' (w.heap.size + 1) v L ∧ L.map El.r = sortedP rs ∧ (∀ x ∈ L, RowV w' v.ownBlock x ∧ x.r.length ≤ maxLen) ∧ Below w.heap.size w w' := by
  have H0 : Hid (BoxR w.heap.size w (w.alloc (.cells #[.slice none 0 0] 22)) (.slice none 0 0) []) := ⟨by simp [go_sem], by simp [go_sem], World.ownsRow_nil _ _ _ _, fun x hx => by simp at hx, fun x hx => by simp at hx, below_alloc (Below.refl _ w) _⟩
  have HA := hide ha
  have HN := hide hr
  clear ha hr
  go_enter Tryz.func24, Tryz.ntmps24
  go_wp2_with fail
  go_loopw [11] (fun i wr => ∃ (k : Nat) (v : Value) (L : List El), k ≤ rs.length ∧ i = .int .i64 (k : Int) ∧ Hid (BoxR w.heap.size w wr v L ∧ L.map El.r = (rs.take k).map cleanR)) (fun i _ => rs.length - (intOf i).toNat)
  case atStart => exact ⟨0, _, [], Nat.zero_le _, rfl, H0, rfl⟩
  case round =>
    obtain ⟨k, v, L, hk, rfl, HI⟩ := hrel
    by_cases hlt : k < rs.length
    · have h9 : (k : Int) < (rs.length : Int) := by omega
      obtain ⟨r, hx⟩ : ∃ r, rs[k]? = some r := ⟨_, List.getElem?_eq_getElem hlt⟩
      have hw := (unhide HI).1.w
      rcases (unhide HA).later hw with e | ⟨bR, oR, rfl, hR⟩
      · rw [e] at hx; cases hx
      obtain ⟨ra, rc, c0, hra⟩ := hR k r hx
      have hrl := unhide HN r (List.mem_of_getElem? hx)
      have HTK := hide (map_take cleanR hx)
      have HRA := hide hra
      clear hx hR hra hw H0
      rename World => w0
      go_wp2_with fail
      go_loopw [6, 17] (fun s6 i wv => ∃ (q : Nat), q ≤ r.length ∧ i = .int .i64 (q : Int) ∧ Hid (OwnV wv w0.heap.size s6 ((r.take q).map cleanV) ∧ Below w0.heap.size w0 wv)) (fun _ i _ => r.length - (intOf i).toNat)
      case atStart => exact ⟨0, Nat.zero_le _, rfl, World.ownsRow_nil _ _ _ _, Below.refl _ _⟩
      case round =>
        obtain ⟨q, hq, rfl, HV⟩ := hrel
        by_cases hlt2 : q < r.length
        · have h8 : (q : Int) < (r.length : Int) := by omega
          obtain ⟨x, hx⟩ : ∃ x, r[q]? = some x := ⟨_, List.getElem?_eq_getElem hlt2⟩
          obtain ⟨rb, ro, rfl, d0, d1, d2⟩ := ((unhide HRA).later (unhide HV).2).lo hx
          have HT2 := hide (map_take cleanV hx)
          have HC := hide (rclean_any x)
          have HBX := hide (below_alloc (Below.refl _ wr) (.cells #[.int .i64 x.k, .int .i64 x.n, .string x.s] 73))
          have HLN : Hid (((r.take q).map cleanV).length = q) := by show _ = _; simp; omega
          generalize cleanV x = cx at *
          generalize (r.take q).map cleanV = zs at *
          clear hx
          go_wp2_with (first
            | (go_at_call 46; refine (unhide HC _).mono ?_; rintro e w3 ⟨rfl, hb3⟩; have hb13 := below_step (unhide HBX) hb3; rw [Val.open_])
            | (at_builtin; refine wpList_push_val (w3.alloc (.cells #[.int .i64 cx.k, .int .i64 cx.n, .string cx.s] 73)) rfl (.tmp 21) (.tmp 24) rfl w0.heap.size _ _ rfl ((unhide HV).1.later (below_alloc hb13 _)) w3.heap.size cx rfl (by refine ⟨?_, ?_, ?_⟩ <;> simp [go_sem]) (by rw [unhide HLN]; omega) (below_alloc (below_step (unhide HV).2 hb13) _).size ?_; intro v4 w4 hO4 hb4; have HO4 := hide hO4; clear hO4))
          refine ⟨⟨q + 1, by omega, by go_num, ?_, ((below_alloc (below_step (unhide HV).2 hb13) _).trans hb4)⟩, by simp [intOf]; omega⟩
          rw [unhide HT2]
          exact unhide HO4
        · have h8 : ¬ (q : Int) < (r.length : Int) := by omega
          have hqe : q = r.length := by omega
          subst hqe
          obtain ⟨hV, hBv⟩ := unhide HV
          rw [List.take_length] at hV
          obtain ⟨a6, c6, rfl, hrow⟩ := ownV_row hV
          have hBR := (unhide HI).1
          have hlt0 : w.heap.size < w0.heap.size := World.block_lt_of_cell? _ _ hBR.c
          have hy1 := newRow (g := v.ownBlock) hV hrow (fun b e => (World.ownsRow.lt hBR.o b e).2)
          have hy2 := newRow (g := some w.heap.size) hV hrow (fun b e => by injection e with e; omega)
          have hlen : (r.map cleanV).length = r.length := List.length_map _
          rw [hlen] at hy1 hy2 ⊢
          have hal := below_alloc (Below.refl _ wr) (.cells #[.slice a6 r.length c6] 70)
          have HBA := hide ((hBR.later hBv).later hal)
          have HY := hide (And.intro (hy1.later hal) (hy2.later hal))
          have HLL : Hid (L.length = k) := by
            show _ = _
            have := congrArg List.length (unhide HI).2
            rw [List.length_map, List.length_map, List.length_take, Nat.min_eq_left hk] at this
            exact this
          have HWS : Hid (w.heap.size + 1 ≤ wr.heap.size) := by show _ ≤ _; have := hBv.size; omega
          have bc := (hBR.later hBv).c
          clear hV hBv hrow hBR hy1 hy2 hal HV
          go_wp2_with (at_builtin; refine wpList_push_row (wr.alloc (.cells #[.slice a6 r.length c6] 70)) rfl (.tmp 27) (.tmp 29) rfl (w.heap.size + 1) v L rfl (unhide HBA).o wr.heap.size ⟨.slice a6 r.length c6, 0, r.map cleanV⟩ rfl (by simp [go_sem]) rfl (by rw [unhide HLL]; omega) (by have := unhide HWS; simp; omega) ?_; intro v2 w2 hO2 hg2; obtain ⟨a2, k2, e2⟩ := ownR_slice hO2; rw [List.length_append] at e2; change v2 = .slice a2 (L.length + 1) k2 at e2; subst e2; have hP := BoxR.push rfl (unhide HBA) hO2 hg2 ⟨(unhide HY).1, by show (r.map cleanV).length ≤ maxLen; rw [List.length_map]; unfold maxLen; omega⟩ (unhide HY).2; have HP := hide hP; have hvB : v.ownBlock ≠ some w.heap.size := (fun e => by have := (World.ownsRow.lt (unhide HBA).o _ e).1; omega); have hc2 : w2.cell? ⟨w.heap.size, 0, none⟩ = some v := (by rw [grew_kept hg2 (World.block_lt_of_cell? _ _ (unhide HBA).c) hvB]; exact (unhide HBA).c); have hf2 : w2.frozen? ⟨w.heap.size, 0, none⟩ = false := (by rw [← (unhide HBA).f]; exact World.frozen?_of_block (a := ⟨w.heap.size, 0, none⟩) (hg2.1.block w.heap.size (World.block_lt_of_cell? _ _ (unhide HBA).c) (fun e => hvB e.symm))); clear hP hO2 hg2 hvB)
          go_roundw
          case rel => exact ⟨k + 1, _, L ++ [⟨.slice a6 r.length c6, 0, r.map cleanV⟩], by omega, by go_num, unhide HP, by rw [List.map_append, (unhide HI).2, unhide HTK]; rfl⟩
          case measure => simp [intOf]; omega
    · have h9 : ¬ (k : Int) < (rs.length : Int) := by omega
      have hke : k = rs.length := by omega
      subst hke
      have hBR := (unhide HI).1
      have hmap := (unhide HI).2
      rw [List.take_length] at hmap
      have hLL : L.length = rs.length := by
        have := congrArg List.length hmap
        rw [List.length_map, List.length_map] at this
        exact this
      have hvB : v.ownBlock ≠ some w.heap.size := fun e => by have := (World.ownsRow.lt hBR.o _ e).1; omega
      have HS := hide (sort43 (w.heap.size + 1) w.heap.size L v wr (by omega) hBR.o hBR.c hvB hBR.r)
      have bc := hBR.c
      have HBR := hide hBR
      have HMP := hide hmap
      have HVB := hide hvB
      clear hBR hmap hLL hvB HI
      go_wp2_with (go_at_call 47; refine (unhide HS).mono ?_; rintro e w2 ⟨rfl, L', o1, o2, o3, o4, o5⟩; have c2 : w2.cell? ⟨w.heap.size, 0, none⟩ = some v := (by rw [grew_kept o2 (World.block_lt_of_cell? _ _ bc) (unhide HVB)]; exact bc); replace o1 := hide o1; replace o2 := hide o2; replace o3 := hide o3; replace o4 := hide o4; replace o5 := hide o5)
      go_ret
      refine ⟨v, L', rfl, unhide o1, sortedP_of (by rw [← unhide HMP]; exact unhide o3) (unhide o4), unhide o5, (unhide HBR).w.trans (grown_below (unhide o2).1 (by have : w.heap.size < wr.heap.size := World.block_lt_of_cell? _ _ bc; omega) (fun g e => by have := (World.ownsRow.lt (unhide HBR).o g e).1; omega))⟩
end Go.Proofs.YtcbenpodohjbiaaGreat
set_option linter.unusedSimpArgs false
set_option linter.unusedVariables false
set_option maxRecDepth 100000
namespace Go.Proofs.YtcbenpodohjbiaaGreat
open Go.RowKit Go.Sort

theorem cb_range : ∀ (s t : List UInt8), -1 ≤ Lib.compareBytes s t ∧ Lib.compareBytes s t ≤ 1
  | [], [] => by simp [Lib.compareBytes]
  | [], _ :: _ => by simp [Lib.compareBytes]
  | _ :: _, [] => by simp [Lib.compareBytes]
  | a :: s, b :: t => by
    have := cb_range s t
    simp only [Lib.compareBytes]
    split
    · omega
    · split <;> omega
theorem ord_range (x y : Val) : -1 ≤ ordV x y ∧ ordV x y ≤ 1 := by
  have h := cb_range (cleanV x).s.data.toList (cleanV y).s.data.toList
  have h1 : -1 ≤ cmpB (cleanV x).s (cleanV y).s ∧ cmpB (cleanV x).s (cleanV y).s ≤ 1 := h
  have hc : ∀ a b : Int, -1 ≤ cmpI a b ∧ cmpI a b ≤ 1 := fun a b => by unfold cmpI; split <;> (try split) <;> omega
  have h2 := hc (cleanV x).k (cleanV y).k
  have h3 := hc (cleanV x).n (cleanV y).n
  unfold ordV orI
  split <;> (try split) <;> omega
/-- One key's order. -/
def keyV (k : Int × Bool) (x y : List Val) : Int := if k.2 then - ordV (x.getD k.1.toNat .null) (y.getD k.1.toNat .null) else ordV (x.getD k.1.toNat .null) (y.getD k.1.toNat .null)
def keysV : List (Int × Bool) → List Val → List Val → Int
  | [], _, _ => 0
  | k :: ks, x, y => if keyV k x y = 0 then keysV ks x y else keyV k x y
theorem keyV_anti (k : Int × Bool) (x y : List Val) : keyV k x y = - keyV k y x := by
  have := ord_anti (x.getD k.1.toNat .null) (y.getD k.1.toNat .null)
  unfold keyV
  split <;> omega
theorem keyV_le (k : Int × Bool) (x y z : List Val) (h1 : keyV k x y ≤ 0) (h2 : keyV k y z ≤ 0) : keyV k x z ≤ 0 := by
  have a1 := ord_anti (x.getD k.1.toNat .null) (y.getD k.1.toNat .null)
  have a2 := ord_anti (y.getD k.1.toNat .null) (z.getD k.1.toNat .null)
  have a3 := ord_anti (x.getD k.1.toNat .null) (z.getD k.1.toNat .null)
  have t1 := @ord_le (x.getD k.1.toNat .null) (y.getD k.1.toNat .null) (z.getD k.1.toNat .null)
  have t2 := @ord_le (z.getD k.1.toNat .null) (y.getD k.1.toNat .null) (x.getD k.1.toNat .null)
  unfold keyV at *
  split at h1 <;> simp_all <;> omega
theorem keysV_anti : ∀ (ks : List (Int × Bool)) (x y : List Val), keysV ks x y = - keysV ks y x
  | [], x, y => rfl
  | k :: ks, x, y => by
    have h := keyV_anti k x y
    have ih := keysV_anti ks x y
    simp only [keysV]
    split
    · rw [if_pos (by omega)]; exact ih
    · rw [if_neg (by omega)]; exact h
theorem keysV_le : ∀ (ks : List (Int × Bool)) (x y z : List Val), keysV ks x y ≤ 0 → keysV ks y z ≤ 0 → keysV ks x z ≤ 0
  | [], x, y, z, _, _ => Int.le_refl 0
  | k :: ks, x, y, z, h1, h2 => by
    have a1 := keyV_anti k x y
    have a2 := keyV_anti k y z
    have a3 := keyV_anti k x z
    have t1 := keyV_le k x y z
    have t2 := keyV_le k y z x
    have t3 := keyV_le k z x y
    have ih := keysV_le ks x y z
    simp only [keysV] at h1 h2 ⊢
    by_cases e1 : keyV k x y = 0 <;> by_cases e2 : keyV k y z = 0 <;> by_cases e3 : keyV k x z = 0 <;> simp only [e1, e2, e3, if_true, if_false] at h1 h2 ⊢ <;> first | exact ih h1 h2 | omega
theorem keys_step {ks : List (Int × Bool)} {j : Nat} {k : Int × Bool} (h : ks[j]? = some k) (x y : List Val) : keysV (ks.drop j) x y = if keyV k x y = 0 then keysV (ks.drop (j + 1)) x y else keyV k x y := by
  obtain ⟨h1, rfl⟩ := List.getElem?_eq_some_iff.1 h
  rw [List.drop_eq_getElem_cons h1, keysV]
end Go.Proofs.YtcbenpodohjbiaaGreat
set_option linter.unusedSimpArgs false
set_option linter.unusedVariables false
set_option maxRecDepth 100000
namespace Go.Proofs.YtcbenpodohjbiaaGreat
open Go.RowKit Go.Sort

set_option maxHeartbeats 4000000 in
/-- byKeys (121) of the document. -/
theorem rbyKeys_any (ks : List (Int × Bool)) (aK aa ab : Option Addr) (cK ca cb : Nat) (xs ys : List Val) (w : World) (hlk : ks.length ≤ 1048576) (hla : xs.length ≤ maxLen) (hlb : ys.length ≤ maxLen) (hin : ∀ k ∈ ks, 0 ≤ k.1 ∧ k.1 < xs.length ∧ k.1 < ys.length) (hK : KeysAt w aK ks) (ha : RowAt w aa xs) (hb : RowAt w ab ys) :
    Calls Tryz.prog 25 #[.slice aa xs.length ca, .slice ab ys.length cb, .slice aK ks.length cK] w fun e w' => e = .returned (.int .i64 (keysV ks xs ys)) ∧ Below w.heap.size w w' := by
  unfold maxLen at hla hlb
  have HIN := hide hin
  have HK := hide hK
  have HA := hide ha
  have HB := hide hb
  clear hin hK ha hb
  go_enter Tryz.func25, Tryz.ntmps25
  go_wp2_with fail
  go_loopw [12] (fun i wr => ∃ q : Nat, q ≤ ks.length ∧ i = .int .i64 (q : Int) ∧ Hid (keysV ks xs ys = keysV (ks.drop q) xs ys) ∧ Hid (Below w.heap.size w wr)) (fun i _ => ks.length - (intOf i).toNat)
  case atStart => exact ⟨0, Nat.zero_le _, rfl, rfl, Below.refl _ _⟩
  case round =>
    obtain ⟨q, hq, rfl, HR, HW⟩ := hrel
    by_cases hlt : q < ks.length
    · have h9 : (q : Int) < (ks.length : Int) := by omega
      obtain ⟨⟨c, d⟩, hx⟩ : ∃ k, ks[q]? = some k := ⟨_, List.getElem?_eq_getElem hlt⟩
      obtain ⟨c0, c1, c2⟩ := unhide HIN _ (List.mem_of_getElem? hx)
      obtain ⟨cn, rfl⟩ : ∃ cn : Nat, c = (cn : Int) := ⟨c.toNat, by simp only at c0; omega⟩
      obtain ⟨bK, oK, rfl, e0, e1⟩ := ((unhide HK).later (unhide HW)).get hx
      obtain ⟨x, gx⟩ : ∃ x, xs[cn]? = some x := ⟨_, List.getElem?_eq_getElem (by simp only at c1; omega)⟩
      obtain ⟨y, gy⟩ : ∃ y, ys[cn]? = some y := ⟨_, List.getElem?_eq_getElem (by simp only at c2; omega)⟩
      have hal := below_alloc (Below.refl _ wr) (.cells #[.int .i64 (cn : Int), .bool d] 58)
      obtain ⟨ba, oa, rfl, x0, x1, x2⟩ := ((unhide HA).later (below_step (unhide HW) hal)).lo gx
      obtain ⟨bb, ob, rfl, y0, y1, y2⟩ := ((unhide HB).later (below_step (unhide HW) hal)).lo gy
      have hkv : keyV ((cn : Int), d) xs ys = if d then - ordV x y else ordV x y := by
        unfold keyV
        simp only [Int.toNat_natCast]
        rw [List.getD_eq_getElem?_getD, List.getD_eq_getElem?_getD, gx, gy]
        rfl
      have HS := hide (keys_step hx xs ys)
      rw [hkv] at HS
      have i1 : (cn : Int) < (xs.length : Int) := c1
      have i2 : (cn : Int) < (ys.length : Int) := c2
      have HO := hide (rorder_any x y)
      have hrg := ord_range x y
      generalize ordV x y = O at *
      have b0 : (wr.alloc (.cells #[.int .i64 (cn : Int), .bool d] 58)).cell? ⟨wr.heap.size, 0, none⟩ = some (.int .i64 (cn : Int)) := by simp [go_sem]
      have b1 : (wr.alloc (.cells #[.int .i64 (cn : Int), .bool d] 58)).cell? ⟨wr.heap.size, 1, none⟩ = some (.bool d) := by simp [go_sem]
      clear hx c0 c1 c2 gx gy hkv
      go_wp2_with fail
      have HWW := hide (below_step (unhide HW) hal)
      clear hal
      have hsz : (wr.alloc (.cells #[.int .i64 (cn : Int), .bool d] 58)).heap.size = wr.heap.size + 1 := by simp [go_sem]
      generalize wr.alloc (.cells #[.int .i64 (cn : Int), .bool d] 58) = W1 at *
      have k0 := cell_regrown x0
      have k1 := cell_regrown x1
      have k2 := cell_regrown x2
      have k3 := cell_regrown y0
      have k4 := cell_regrown y1
      have k5 := cell_regrown y2
      have k6 := cell_regrown b0
      clear x0 x1 x2 y0 y1 y2 e0 e1
      refine wp_region_quiet_below (by kernel_rfl) (by kernel_rfl) ?_
      repeat (go_big_quiet_step ((go_at_call 50; exact Calls.regrown_of (unhide HO _))))
      refine wpQuiet_nil ?_
      intro w' hw'
      have hB : Below W1.heap.size W1 w' := by obtain ⟨p, rfl⟩ := hw'; exact below_regrown _ _ _
      clear hw'
      have hbel' := hide (below_step (unhide HWW) hB)
      have b2 := clater b1 hB
      clear k0 k1 k2 k3 k4 k5 k6 b0 b1 hB
      cases d
      · by_cases ho : O = 0
        · have ho' : (O != 0) = false := by simpa using ho
          have HE : Hid (keysV ks xs ys = keysV (ks.drop (q + 1)) xs ys) := by show _ = _; rw [unhide HR, unhide HS]; simp [ho]
          clear ho HS HR
          go_wp2
          go_roundw
          case rel => exact ⟨q + 1, by omega, by go_num, HE, hbel'⟩
          case measure => simp [intOf]; omega
        · have ho' : (O != 0) = true := by simpa using ho
          have HE : Hid (keysV ks xs ys = O) := by show _ = _; rw [unhide HR, unhide HS]; simp [ho]
          clear ho HS HR
          go_wp2
          go_ret
          exact ⟨by rw [unhide HE]; rfl, unhide hbel'⟩
      · by_cases ho : O = 0
        · have HE : Hid (keysV ks xs ys = keysV (ks.drop (q + 1)) xs ys) := by show _ = _; rw [unhide HR, unhide HS]; simp [ho]
          clear HS HR
          subst ho
          go_wp2
          go_roundw
          case rel => exact ⟨q + 1, by omega, by go_num, HE, hbel'⟩
          case measure => simp [intOf]; omega
        · have HE : Hid (keysV ks xs ys = -O) := by show _ = _; rw [unhide HR, unhide HS]; simp [ho]
          clear HS HR
          obtain rfl | rfl : O = 1 ∨ O = -1 := by omega
          · go_wp2
            go_ret
            exact ⟨by rw [unhide HE]; rfl, unhide hbel'⟩
          · go_wp2
            go_ret
            exact ⟨by rw [unhide HE]; rfl, unhide hbel'⟩
    · have h9 : ¬ (q : Int) < (ks.length : Int) := by omega
      have hqe : q = ks.length := by omega
      have HE : Hid (keysV ks xs ys = 0) := by show _ = _; rw [unhide HR, hqe, List.drop_length]; rfl
      clear HR
      go_wp2
      go_ret
      exact ⟨by rw [unhide HE]; rfl, unhide HW⟩
end Go.Proofs.YtcbenpodohjbiaaGreat
set_option linter.unusedSimpArgs false
set_option linter.unusedVariables false
set_option maxRecDepth 100000
namespace Go.Proofs.YtcbenpodohjbiaaGreat
open Go.RowKit Go.Sort

/-- By the keys, then as rows. -/
def lexK (ks : List (Int × Bool)) (x y : List Val) : Int := if keysV ks x y = 0 then rowsV x y else keysV ks x y
def RisesK (ks : List (Int × Bool)) (l : List (List Val)) : Prop := l.Pairwise fun x y => lexK ks x y ≤ 0
/-- What the document's ordered answers. -/
def orderedP (ks : List (Int × Bool)) (rs : List (List Val)) : List (List Val) := (rs.map cleanR).mergeSort fun x y => decide (lexK ks x y ≤ 0)
theorem retag_mem2 {L : List El} {x : El} (h : x ∈ retag L) : x.t < L.length ∧ x.r = (atL L x.t).r := by
  obtain ⟨k, hk⟩ := List.getElem?_of_mem h
  rw [retag_get] at hk
  obtain ⟨y, hy, rfl⟩ := Option.map_eq_some_iff.1 hk
  exact ⟨(List.getElem?_eq_some_iff.1 hy).1, by rw [atL_of hy]⟩
theorem sab_keys {ks : List (Int × Bool)} {L L' : List El} (hs : RisesR (L.map El.r)) (hp : L'.Perm (retag L)) (h : SAB (lexOd (keysV ks) (keysV_anti ks) (keysV_le ks)) 0 L.length L') : RisesK ks (L'.map El.r) := by
  have hlen : L'.length = L.length := by rw [hp.length_eq, retag_len]
  refine List.pairwise_iff_getElem.2 fun i j hi hj hij => ?_
  rw [List.length_map] at hi hj
  have h1 := h i j (Nat.zero_le _) hij (by omega)
  rw [List.getElem_map, List.getElem_map]
  rw [atL_of (List.getElem?_eq_getElem hi), atL_of (List.getElem?_eq_getElem hj)] at h1
  change (if keysV ks L'[i].r L'[j].r = 0 then tagI L'[i].t L'[j].t else keysV ks L'[i].r L'[j].r) ≤ 0 at h1
  show (if keysV ks L'[i].r L'[j].r = 0 then rowsV L'[i].r L'[j].r else keysV ks L'[i].r L'[j].r) ≤ 0
  split at h1
  · rename_i e
    rw [if_pos e]
    have ht := (tagI_le _ _).1 h1
    obtain ⟨p1, p2⟩ := retag_mem2 (hp.mem_iff.1 (List.getElem_mem hi))
    obtain ⟨q1, q2⟩ := retag_mem2 (hp.mem_iff.1 (List.getElem_mem hj))
    rw [p2, q2]
    by_cases et : L'[i].t = L'[j].t
    · rw [et, rows_self]; omega
    · have := List.pairwise_iff_getElem.1 hs L'[i].t L'[j].t (by rw [List.length_map]; exact p1) (by rw [List.length_map]; exact q1) (by omega)
      rw [List.getElem_map, List.getElem_map] at this
      rw [atL_of (List.getElem?_eq_getElem p1), atL_of (List.getElem?_eq_getElem q1)]
      exact this
  · rename_i e
    rw [if_neg e]; exact h1
theorem KeysAt.grew {W W' : World} {v : Value} {aK : Option Addr} {ks : List (Int × Bool)} (h : KeysAt W aK ks) (hg : Grew W W' v v) (hn : ∀ b off, aK = some ⟨b, off, none⟩ → ks ≠ [] → v.ownBlock ≠ some b) : KeysAt W' aK ks := by
  by_cases e : ks = []
  · exact .inl e
  rcases h with h | ⟨b, off, rfl, h⟩
  · exact .inl h
  · refine .inr ⟨b, off, rfl, fun i y hy => ?_⟩
    obtain ⟨c0, c1⟩ := h i y hy
    have hb := World.block_lt_of_cell? _ _ c0
    rw [grew_kept hg hb (hn b off rfl e), grew_kept hg hb (hn b off rfl e)]
    exact ⟨c0, c1⟩
theorem KeysAt.blk {W : World} {b off : Nat} {ks : List (Int × Bool)} (h : KeysAt W (some ⟨b, off, none⟩) ks) (hne : ks ≠ []) : b < W.heap.size := by
  cases ks with
  | nil => exact absurd rfl hne
  | cons k ks =>
    obtain ⟨b', off', e, c0, _⟩ := h.get (i := 0) (x := k) rfl
    injection e with e
    injection e with e1 e2
    subst e1
    exact World.block_lt_of_cell? _ _ c0

end Go.Proofs.YtcbenpodohjbiaaGreat
set_option linter.unusedSimpArgs false
set_option linter.unusedVariables false
set_option maxRecDepth 100000
namespace Go.Proofs.YtcbenpodohjbiaaGreat
open Go.RowKit Go.Sort

/-- Of the first k those that are not as the one ahead of them. -/
def onceT (l : List (List Val)) : Nat → List (List Val)
  | 0 => []
  | k + 1 => onceT l k ++ (if k = 0 ∨ rowsV (l.getD k []) (l.getD (k - 1) []) ≠ 0 then [l.getD k []] else [])
def onceP (l : List (List Val)) : List (List Val) := onceT l l.length
theorem OwnR.base {w : World} {b b' : Nat} {v : Value} {L : List El} (h : OwnR w b v L) (hb : b' ≤ b) : OwnR w b' v L := by
  refine ⟨h.1, ?_⟩
  rcases h.2 with h2 | ⟨g, cap, cur, e, hg, h2⟩
  · exact .inl h2
  · exact .inr ⟨g, cap, cur, e, Nat.le_trans hb hg, h2⟩
set_option maxHeartbeats 4000000 in
/-- once (49) of the document. -/
theorem ronce_any (rs : List (List Val)) (aR : Option Addr) (cR : Nat) (w : World) (hn : rs.length ≤ 1048576) (hr : ∀ r ∈ rs, r.length ≤ 1048576) (ha : RowsT w aR rs) :
    Calls Tryz.prog 31 #[.slice aR rs.length cR] w fun e w' => ∃ v L, e = .returned v ∧ OwnR w' w.heap.size v L ∧ L.map El.r = onceP (sortedP rs) ∧ (∀ x ∈ L, RowV w' v.ownBlock x ∧ x.r.length ≤ maxLen) ∧ Below w.heap.size w w' := by
  have HS := hide (rsorted_any rs aR cR w hn hr ha)
  have HSL : Hid ((sortedP rs).length = rs.length) := by show _ = _; rw [(sortedP_perm rs).length_eq, List.length_map]
  clear hr ha
  go_enter Tryz.func31, Tryz.ntmps31
  go_wp2_with (go_at_call 24; refine (unhide HS).mono ?_; rintro e w1 ⟨v, L, rfl, o1, o2, o3, o4⟩; obtain ⟨a1, k1, rfl⟩ := ownR_slice o1; replace o1 := hide o1; replace o2 := hide o2; replace o3 := hide o3; replace o4 := hide o4)
  have hLb : L.length ≤ 1048576 := by have := congrArg List.length (unhide o2); rw [List.length_map, unhide HSL] at this; omega
  have HR : Hid (onceP (sortedP rs) = onceT (L.map El.r) L.length) := by show _ = _; unfold onceP; rw [← unhide o2, List.length_map]
  have HSZ : Hid (w.heap.size ≤ w1.heap.size) := (unhide o4).size
  go_loopw [4, 11] (fun s4 i wr => ∃ (q : Nat) (M : List El), q ≤ L.length ∧ i = .int .i64 (q : Int) ∧ Hid (OwnR wr w1.heap.size s4 M ∧ M.map El.r = onceT (L.map El.r) q ∧ (∀ x ∈ M, RowV wr s4.ownBlock x ∧ x.r.length ≤ maxLen) ∧ M.length ≤ q) ∧ Hid (Below w1.heap.size w1 wr)) (fun _ i _ => L.length - (intOf i).toNat)
  case atStart => exact ⟨0, [], Nat.zero_le _, rfl, ⟨World.ownsRow_nil _ _ _ _, rfl, fun x hx => by simp at hx, Nat.le_refl _⟩, Below.refl _ _⟩
  case round =>
    obtain ⟨q, M, hq, rfl, HI, HW⟩ := hrel
    by_cases hlt : q < L.length
    · have h9 : (q : Int) < (L.length : Int) := by omega
      obtain ⟨g, cap, hv⟩ : ∃ g cap, (Value.slice a1 L.length k1) = .slice (some ⟨g, 0, none⟩) L.length cap := by
        rcases (unhide o1).2 with ⟨_, h0⟩ | ⟨g, cap, cur, ev, _⟩
        · omega
        · exact ⟨g, cap, ev⟩
      injection hv with hv1 _ hv3
      subst hv1 hv3
      have hO := (unhide o1).later (unhide HW)
      have mq : atL L q ∈ L := List.mem_of_getElem? (atL_some hlt)
      obtain ⟨⟨pa, pc, p1, p2, p5, p6⟩, p3⟩ := unhide o3 _ mq
      have c0 := (hO.at hlt).1
      rw [p1] at c0
      have hgd : (L.map El.r).getD q [] = (atL L q).r := by rw [List.getD_eq_getElem?_getD, List.getElem?_map, atL_some hlt]; rfl
      have hblk : ∀ b off, pa = some ⟨b, off, none⟩ → (atL L q).r ≠ [] → b < w1.heap.size := fun b off e hne => by subst e; exact p2.blk hne
      have HY := hide (And.intro p2 hblk)
      have HP6 := hide p6
      have HP3 := hide p3
      have PUSH : Hid (∀ (w3 : World) (v4 : Value) (w4 : World), Below wr.heap.size wr w3 → OwnR w4 w1.heap.size v4 (M ++ [⟨.slice pa (atL L q).r.length pc, 0, (atL L q).r⟩]) → Grew w3 w4 u4 v4 → (∀ x ∈ M ++ [⟨.slice pa (atL L q).r.length pc, 0, (atL L q).r⟩], RowV w4 v4.ownBlock x ∧ x.r.length ≤ maxLen) ∧ Below w1.heap.size w1 w4) := fun w3 v4 w4 hb3 hO4 hg4 => by
        have hOW := (unhide HI).1.later hb3
        have hB3 := below_step (unhide HW) hb3
        refine ⟨fun x hx => ?_, hB3.trans (grown_below hg4.1 hB3.size (fun g e => (World.ownsRow.lt hOW g e).1))⟩
        rcases List.mem_append.1 hx with hx | hx
        · exact ⟨(((unhide HI).2.2.1 x hx).1.later hb3).push hg4, ((unhide HI).2.2.1 x hx).2⟩
        · simp at hx
          subst hx
          refine ⟨RowV.push (v := u4) ⟨pa, pc, rfl, (unhide HY).1.later hB3, fun b off e hne h => ?_, fun b off e hne => (unhide HP6 b off e hne).keep (hB3.block b (unhide HP6 b off e hne).lt)⟩ hg4, unhide HP3⟩
          have h1 := (unhide HY).2 b off e hne
          have h2 := (World.ownsRow.lt hOW b h).1
          omega
      have hT : onceT (L.map El.r) (q + 1) = onceT (L.map El.r) q ++ (if q = 0 ∨ rowsV (atL L q).r ((L.map El.r).getD (q - 1) []) ≠ 0 then [(atL L q).r] else []) := by rw [onceT, hgd]
      by_cases hq0 : q = 0
      · have e0 : ((q : Int) == 0) = true := by simpa using hq0
        rw [if_pos (.inl hq0)] at hT
        have HT := hide hT
        clear hT hgd hblk p1 p2 p3 p5 hO mq hq0
        go_wp2_with (first
          | (at_builtin; refine wpList_push_row (wr.alloc (.cells #[.slice pa (atL L q).r.length pc] 70)) rfl (.tmp 28) (.tmp 30) rfl w1.heap.size _ M rfl ((unhide HI).1.later (below_alloc (Below.refl _ _) _)) wr.heap.size ⟨.slice pa (atL L q).r.length pc, 0, (atL L q).r⟩ rfl (by simp [go_sem]) rfl (by have := (unhide HI).2.2.2; omega) (by have := (unhide HW).size; simp; omega) ?_; intro v4 w4 hO4 hg4; have HP := hide (unhide PUSH _ _ _ (below_alloc (Below.refl _ _) _) hO4 hg4); have HO4 := hide hO4; clear hO4 hg4))
        go_roundw
        case rel => exact ⟨q + 1, M ++ [⟨.slice pa (atL L q).r.length pc, 0, (atL L q).r⟩], by omega, by go_num, ⟨unhide HO4, by rw [unhide HT, List.map_append, (unhide HI).2.1]; rfl, (unhide HP).1, by rw [List.length_append]; have := (unhide HI).2.2.2; simp; omega⟩, (unhide HP).2⟩
        case measure => simp [intOf]; omega
      · obtain ⟨p, rfl⟩ : ∃ p, q = p + 1 := ⟨q - 1, by omega⟩
        have hltp : p < L.length := by omega
        have h9p : (p : Int) < (L.length : Int) := by omega
        have e0 : (((p + 1 : Nat) : Int) == 0) = false := by simp; omega
        have mp : atL L p ∈ L := List.mem_of_getElem? (atL_some hltp)
        obtain ⟨⟨qa, qc, q1, q2, q5⟩, q3⟩ := unhide o3 _ mp
        have c1 := (hO.at hltp).1
        rw [q1] at c1
        have hgp : (L.map El.r).getD p [] = (atL L p).r := by rw [List.getD_eq_getElem?_getD, List.getElem?_map, atL_some hltp]; rfl
        rw [show p + 1 - 1 = p by omega, hgp] at hT
        have HC := hide (rrows_any pa qa pc qc (atL L (p + 1)).r (atL L p).r wr p3 q3 (p2.later (unhide HW)) (q2.later (unhide HW)))
        have esub : ((p + 1 : Nat) : Int) - 1 = (p : Int) := by omega
        by_cases ho : rowsV (atL L (p + 1)).r (atL L p).r = 0
        · rw [if_neg (by rintro (h | h); exact absurd h (by omega); exact h ho)] at hT
          rw [ho] at HC
          have HT := hide hT
          clear hT hgd hgp hblk p1 p2 p3 p5 q1 q2 q3 q5 hO mq mp hq0 ho
          go_wp2_with (go_at_call 49; refine (unhide HC).mono ?_; rintro e w3 ⟨rfl, hb3⟩)
          go_roundw
          case rel => exact ⟨p + 1 + 1, M, by omega, by go_num, ⟨(unhide HI).1.later hb3, by rw [unhide HT, (unhide HI).2.1]; simp, fun x hx => ⟨((unhide HI).2.2.1 x hx).1.later hb3, ((unhide HI).2.2.1 x hx).2⟩, by have := (unhide HI).2.2.2; omega⟩, below_step (unhide HW) hb3⟩
          case measure => simp [intOf]; omega
        · rw [if_pos (.inr ho)] at hT
          have HT := hide hT
          have ho' : (rowsV (atL L (p + 1)).r (atL L p).r != 0) = true := by simpa using ho
          generalize rowsV (atL L (p + 1)).r (atL L p).r = O at *
          clear hT hgd hgp hblk p1 p2 p3 p5 q1 q2 q3 q5 hO mq mp hq0 ho
          go_wp2_with (first
            | (go_at_call 49; refine (unhide HC).mono ?_; rintro e w3 ⟨rfl, hb3⟩; have hba := below_alloc hb3 (.cells #[.slice pa (atL L (p + 1)).r.length pc] 70))
            | (at_builtin; refine wpList_push_row (w3.alloc (.cells #[.slice pa (atL L (p + 1)).r.length pc] 70)) rfl (.tmp 28) (.tmp 30) rfl w1.heap.size _ M rfl ((unhide HI).1.later hba) w3.heap.size ⟨.slice pa (atL L (p + 1)).r.length pc, 0, (atL L (p + 1)).r⟩ rfl (by simp [go_sem]) rfl (by have := (unhide HI).2.2.2; omega) (by have := (unhide HW).size; have := hba.size; omega) ?_; intro v4 w4 hO4 hg4; have HP := hide (unhide PUSH _ _ _ hba hO4 hg4); have HO4 := hide hO4; clear hO4 hg4))
          go_roundw
          case rel => exact ⟨p + 1 + 1, M ++ [⟨.slice pa (atL L (p + 1)).r.length pc, 0, (atL L (p + 1)).r⟩], by omega, by go_num, ⟨unhide HO4, by rw [unhide HT, List.map_append, (unhide HI).2.1]; rfl, (unhide HP).1, by rw [List.length_append]; have := (unhide HI).2.2.2; simp; omega⟩, (unhide HP).2⟩
          case measure => simp [intOf]; omega
    · have h9 : ¬ (q : Int) < (L.length : Int) := by omega
      have hqe : q = L.length := by omega
      subst hqe
      have HE := unhide HR
      go_wp2
      go_ret
      first
      | exact ⟨u4, M, rfl, (unhide HI).1.base (unhide HSZ), (by first | (rw [(unhide HI).2.1]; done) | (rw [(unhide HI).2.1]; exact HE.symm)), (unhide HI).2.2.1, (unhide o4).trans ((unhide HW).mono (unhide HSZ))⟩
      | exact ⟨u4, rfl, M, (unhide HI).1.base (unhide HSZ), (by first | (rw [(unhide HI).2.1]; done) | (rw [(unhide HI).2.1]; exact HE.symm)), (unhide HI).2.2.1, (unhide o4).trans ((unhide HW).mono (unhide HSZ))⟩
end Go.Proofs.YtcbenpodohjbiaaGreat

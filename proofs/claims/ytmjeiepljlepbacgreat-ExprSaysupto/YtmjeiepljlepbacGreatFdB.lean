import Derived.Test.YtmjeiepljlepbacGreatFdA
import Derived.Test.YtmjeiepljlepbacGreatRmF
set_option linter.unusedSimpArgs false
set_option linter.unusedVariables false
set_option maxRecDepth 100000
namespace Go.Proofs.YtmjeiepljlepbacGreat
open Go.RowKit Go.Sort

set_option maxHeartbeats 400000 in
/-- constant(v) of the document's fold (128). -/
theorem rcon_any (v : Val) (w : World) : Calls Tryz.prog 128 #[v.v] w fun r w' => r = .returned ((conE v).val none 0) ∧ Below w.heap.size w w' := by
  rw [Ex.val_open, Val.open_]
  go_enter Tryz.func128, Tryz.ntmps128
  go_wp2
  refine bodyPost_ret (v := .agg #[.int .i64 (conE v).op, .int .i64 (conE v).n, .int .i64 (conE v).v.k, .int .i64 (conE v).v.n, .string (conE v).v.s, .slice none (conE v).args.length 0]) (by simp [results, Tryz.results128, go_sem]; exact ⟨rfl, rfl, rfl, rfl, rfl, rfl⟩) rfl ⟨rfl, ?_⟩
  first
    | exact below_alloc (below_alloc (Below.refl _ _) _) _
    | exact put6 (below_alloc (below_alloc (Below.refl _ _) _) _) (by omega) _ _ _ _ _ _
set_option maxHeartbeats 400000 in
/-- is(i, v) of the document's fold (127). -/
theorem ris_any (L : List Ex) (i : Nat) (x : Ex) (hx : L[i]? = some x) (vv : Int) (o : Nat) (a2 : Option Addr) (c2 : Nat) (w : World) (hl : L.length ≤ 1000) (h5 : w.cell? ⟨o, 5, none⟩ = some (.slice a2 L.length c2)) (hA : Ex.all w a2 L) :
    Calls Tryz.prog 127 #[.int .i64 (i : Int), .int .i64 vv, .pointer (some ⟨o, 0, none⟩)] w fun r w' => r = .returned (.bool (isR x (vv == 0))) ∧ Below w.heap.size w w' := by
  have hi : i < L.length := (List.getElem?_eq_some_iff.1 hx).1
  have h9 : (i : Int) < (L.length : Int) := by omega
  obtain ⟨vb, vo, ea, hat⟩ := Ex.all_get hA hx
  obtain ⟨a', c', ⟨d0, d1, d2, d3, d4, d5⟩, hal⟩ := Ex.at_open hat
  subst ea
  clear hx hA hat hal
  unfold isR
  have HB0 := hide (below_alloc (Below.refl _ w) (.cells #[.int .i64 x.op, .int .i64 x.n, .int .i64 x.v.k, .int .i64 x.v.n, .string x.v.s, .slice a' x.args.length c'] 59))
  rcases Bool.eq_false_or_eq_true (x.op == 2) with h2 | h2
  · rcases Bool.eq_false_or_eq_true (x.v.k == 1) with h1 | h1
    · go_enter Tryz.func127, Tryz.ntmps127
      go_wp2
      go_ret
      exact ⟨by simp [h2, h1], unhide HB0⟩
    · go_enter Tryz.func127, Tryz.ntmps127
      go_wp2
      go_ret
      exact ⟨by simp [h2, h1], unhide HB0⟩
  · go_enter Tryz.func127, Tryz.ntmps127
    go_wp2
    go_ret
    exact ⟨by simp [h2], unhide HB0⟩
theorem exk_put6 {lo g : Nat} {w : World} {a : Option Addr} {l : List Ex} (h : ExK lo w a l) (hg : g < lo) (u0 u1 u2 u3 u4 u5 : Value) :
    ExK lo ((((((w.setCell ⟨g, 0, none⟩ u0).setCell ⟨g, 1, none⟩ u1).setCell ⟨g, 2, none⟩ u2).setCell ⟨g, 3, none⟩ u3).setCell ⟨g, 4, none⟩ u4).setCell ⟨g, 5, none⟩ u5) a l :=
  h.on ((((((Kept.of_low _ _ _ _ hg).trans (Kept.of_low _ _ _ _ hg)).trans (Kept.of_low _ _ _ _ hg)).trans (Kept.of_low _ _ _ _ hg)).trans (Kept.of_low _ _ _ _ hg)).trans (Kept.of_low _ _ _ _ hg))
theorem exk_nilR (lo : Nat) (w : World) (a : Option Addr) : ExK lo w a [] := fun W' _ => by rw [Ex.all]; trivial
/-- The six cells of a node, stored. -/
abbrev S6 (w : World) (g o : Nat) (q : Nd) : World := (((((w.setCell ⟨g, o, none⟩ (.int .i64 q.1.op)).setCell ⟨g, o + 1, none⟩ (.int .i64 q.1.n)).setCell ⟨g, o + 2, none⟩ (.int .i64 q.1.v.k)).setCell ⟨g, o + 3, none⟩ (.int .i64 q.1.v.n)).setCell ⟨g, o + 4, none⟩ (.string q.1.v.s)).setCell ⟨g, o + 5, none⟩ (.slice q.2.1 q.1.args.length q.2.2)
theorem s6_heap (w : World) (g o : Nat) (q : Nd) (b : Nat) (hb : b ≠ g) : (S6 w g o q).heap[b]? = w.heap[b]? := by
  unfold S6
  rw [Below.heap_setCell _ _ _ _ hb, Below.heap_setCell _ _ _ _ hb, Below.heap_setCell _ _ _ _ hb, Below.heap_setCell _ _ _ _ hb, Below.heap_setCell _ _ _ _ hb, Below.heap_setCell _ _ _ _ hb]
theorem s6_size (w : World) (g o : Nat) (q : Nd) : (S6 w g o q).heap.size = w.heap.size := by simp [S6, World.setCell]
theorem s6_below {lo : Nat} {w0 w : World} {g o : Nat} (q : Nd) (h : Below lo w0 w) (hg : lo ≤ g) : Below lo w0 (S6 w g o q) :=
  (((((h.setCell (by simpa using hg) _).setCell (by simpa using hg) _).setCell (by simpa using hg) _).setCell (by simpa using hg) _).setCell (by simpa using hg) _).setCell (by simpa using hg) _
theorem own_hdr {w : World} {base B o : Nat} {v u : Value} {L : List Nd} (h : OwnE w base v L) (hB : B < base) : OwnE (w.setCell ⟨B, o, none⟩ u) base v L := by
  obtain ⟨h1, h2⟩ := h
  refine ⟨h1, ?_⟩
  rcases h2 with h2 | ⟨g, cap, cur, q1, q2, q3, q4⟩
  · exact .inl h2
  · refine .inr ⟨g, cap, cur, q1, q2, ?_, q4⟩
    rw [Below.heap_setCell _ _ _ _ (show g ≠ B by omega)]
    exact q3
theorem NInv.step2 {lo B : Nat} {v v' : Value} {L : List Nd} {q : Nd} {wr w3 w4 w5 : World} (h : NInv lo v L wr) (hb3 : Below wr.heap.size wr w3) (hq : ExK wr.heap.size w3 q.2.1 q.1.args) (ob4 : Obj)
    (hO : OwnE w5 lo v' (L ++ [q])) (hg : (w3.alloc ob4).grownBy w4 v.ownBlock) (hv : v'.ownBlock = v.ownBlock ∨ v'.ownBlock = some (w3.alloc ob4).heap.size) (hB : B < lo) (hlo : lo ≤ wr.heap.size) (hsz : w5.heap.size = w4.heap.size)
    (hset : ∀ b, b ≠ B → some b ≠ v'.ownBlock → w5.heap[b]? = w4.heap[b]?) : NInv lo v' (L ++ [q]) w5 := by
  have hin := own_in h.1
  have s3 := hb3.size
  have s4 : w3.heap.size < (w3.alloc ob4).heap.size := by simp [go_sem]
  have s5 := hg.size
  have hal : ∀ b, b < w3.heap.size → (w3.alloc ob4).heap[b]? = w3.heap[b]? := fun b hb => (below_alloc (Below.refl _ w3) ob4).block b hb
  have hnv' : ∀ b, b < w3.heap.size → some b ≠ v.ownBlock → some b ≠ v'.ownBlock := fun b hb hnb => by
    rcases hv with hv | hv
    · rw [hv]; exact hnb
    · rw [hv]; intro e; injection e with e; omega
  have hobn : ∀ (u : Value) b, b ∉ ob u → some b ≠ u.ownBlock := fun u b hb e => hb (by unfold ob; rw [← e]; simp)
  have hobm : ∀ (u : Value) b, some b ≠ u.ownBlock → b ∉ ob u := fun u b hb => by
    unfold ob
    cases hu : u.ownBlock with
    | none => simp
    | some g => simp; intro e; exact hb (by rw [hu, e])
  refine ⟨hO, fun x hx W' hK => ?_⟩
  rcases List.mem_append.1 hx with hx | hx
  · refine h.2 x hx W' ⟨by have := hK.size; omega, fun b g1 g2 g3 => ?_⟩
    have n1 := hobn v b g3
    have n2 := hnv' b (by omega) n1
    rw [hK.block b g1 (by omega) (hobm v' b n2), hset b (by omega) n2, hg.block b (by omega) n1, hal b (by omega), hb3.block b g2]
  · rw [List.mem_singleton] at hx
    subst hx
    refine hq W' ⟨by have := hK.size; omega, fun b g1 g2 _ => ?_⟩
    have n1 : some b ≠ v.ownBlock := fun e => by have := (hin b e.symm).2; omega
    have n2 := hnv' b g2 n1
    rw [hK.block b (by omega) (by omega) (hobm v' b n2), hset b (by omega) n2, hg.block b (by omega) n1, hal b g2]
/-- What stands behind a round of the document's fold. -/
def Rnd (e : Ex) (a : Option Addr) (c : Nat) (w : World) (v : Value) (L : List Nd) (wr : World) : Prop := Fr w.heap.size e a c v wr ∧ NInv (w.heap.size + 3) v L wr ∧ Below w.heap.size w wr ∧ w.heap.size + 3 ≤ wr.heap.size
theorem ownE_set {w : World} {base g n cap : Nat} {L : List Nd} {z q : Nd} (h : OwnE w base (.slice (some ⟨g, 0, none⟩) n cap) (L ++ [z])) : OwnE (S6 w g (L.length * 6) q) base (.slice (some ⟨g, 0, none⟩) n cap) (L ++ [q]) := by
  have h1 := h.put (j := L.length) (by simp) q
  rw [List.set_append_right _ _ (Nat.le_refl _), Nat.sub_self] at h1
  exact h1
theorem push_doneA {e : Ex} {a : Option Addr} {c : Nat} {w wr w3 w4 : World} {v : Value} {L : List Nd} {q z : Nd} {g n cap : Nat} {ob4 : Obj} (h : Rnd e a c w v L wr) (hb3 : Below wr.heap.size wr w3) (hq : ExK wr.heap.size w3 q.2.1 q.1.args)
    (hO : OwnE w4 (w.heap.size + 3) (.slice (some ⟨g, 0, none⟩) n cap) (L ++ [z])) (hg : (w3.alloc ob4).grownBy w4 v.ownBlock) (hv : (Value.slice (some ⟨g, 0, none⟩) n cap).ownBlock = v.ownBlock ∨ (Value.slice (some ⟨g, 0, none⟩) n cap).ownBlock = some (w3.alloc ob4).heap.size) :
    Rnd e a c w (.slice (some ⟨g, 0, none⟩) n cap) (L ++ [q]) ((S6 w4 g (L.length * 6) q).setCell ⟨w.heap.size + 2, 5, none⟩ (.slice (some ⟨g, 0, none⟩) n cap)) ∧
    Rnd e a c w (.slice (some ⟨g, 0, none⟩) n cap) (L ++ [q]) (S6 (w4.setCell ⟨w.heap.size + 2, 5, none⟩ (.slice (some ⟨g, 0, none⟩) n cap)) g (L.length * 6) q) := by
  obtain ⟨hF, hN, hB, hs⟩ := h
  have hg3 : w.heap.size + 3 ≤ g := (own_in hO g rfl).1
  have s3 := hb3.size
  have s4 : w3.heap.size < (w3.alloc ob4).heap.size := by simp [go_sem]
  have s5 := hg.size
  have hB4 : Below (w.heap.size + 3) wr w4 := ((below_alloc hb3 ob4).mono hs).trans (grown_below hg (by omega) (fun g' hg' => (own_in hN.1 g' hg').1))
  have hF4 := hF.below hB4 (Nat.le_refl _)
  have hBw : Below w.heap.size w w4 := hB.trans (hB4.mono (by omega))
  refine ⟨⟨?_, ?_, ?_, ?_⟩, ?_, ?_, ?_, ?_⟩
  · exact (hF.below (s6_below q hB4 hg3) (Nat.le_refl _)).put _
  · refine NInv.step2 (B := w.heap.size + 2) (w4 := w4) hN hb3 hq ob4 (own_hdr (ownE_set hO) (by omega)) hg hv (by omega) hs (by rw [show ∀ (W : World) p u, (W.setCell p u).heap.size = W.heap.size from fun W p u => by simp [World.setCell], s6_size]) fun b h1 h2 => ?_
    rw [Below.heap_setCell _ _ _ _ h1]
    exact s6_heap _ _ _ _ _ (fun e => h2 (by rw [e]; rfl))
  · exact (s6_below q hBw (by omega)).setCell (by show w.heap.size ≤ w.heap.size + 2; omega) _
  · rw [show ∀ (W : World) p u, (W.setCell p u).heap.size = W.heap.size from fun W p u => by simp [World.setCell], s6_size]; omega
  · exact (hF4.put _).below (s6_below q (Below.refl _ _) hg3) (Nat.le_refl _)
  · refine NInv.step2 (B := w.heap.size + 2) (w4 := w4) hN hb3 hq ob4 (ownE_set (own_hdr hO (by omega))) hg hv (by omega) hs (by rw [s6_size]; simp [World.setCell]) fun b h1 h2 => ?_
    rw [s6_heap _ _ _ _ _ (fun e => h2 (by rw [e]; rfl)), Below.heap_setCell _ _ _ _ h1]
  · exact s6_below q (hBw.setCell (by show w.heap.size ≤ w.heap.size + 2; omega) _) (by omega)
  · rw [s6_size]; simp only [World.setCell]; simp; omega
end Go.Proofs.YtmjeiepljlepbacGreat

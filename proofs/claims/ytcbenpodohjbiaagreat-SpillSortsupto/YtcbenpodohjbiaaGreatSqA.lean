import Derived.Test.YtcbenpodohjbiaaGreatSpY
import Derived.Test.YtcbenpodohjbiaaGreatSpU
set_option linter.unusedSimpArgs false
set_option linter.unusedVariables false
set_option maxRecDepth 100000
namespace Go.Proofs.YtcbenpodohjbiaaGreat
open Go.RowKit Go.Sort

/-- Slice to k: of heads. -/
theorem slice_to115 (g n c k : Nat) (W : World) (hk : k ≤ c) : (Instr.slice 115 (.slice (some ⟨g, 0, none⟩) n c) none (some (.int .i64 (k : Int))) none).run Tryz.prog W = .ok (.slice (some ⟨g, 0, none⟩) k c) W := by
  have hi : (Tryz.prog.info? 120).map (fun i => (i.zero, i.size, i.bytes)) = some (some (.agg #[.slice none 0 0, .int .i64 0]), 2, 32) := by kernel_rfl
  obtain ⟨i, hi, _, hz, _⟩ := info_parts hi
  have h1 : ¬ (c : Int) < (k : Int) := by omega
  have h2 : (k : Int) ≤ (c : Int) := by omega
  simp [Instr.slice, run_underlying Tryz.underlying115, Instr.sliceBounds, Instr.sliceBound, asIntOf, sizeOf, typeInfo, hi, hz, h1, h2, Addr.add]
  intro h
  omega
theorem OwnH.take {w : World} {g N c k : Nat} {L : List Hd} (h : OwnH w (.slice (some ⟨g, 0, none⟩) N c) L) (hk : k ≤ N) : OwnH w (.slice (some ⟨g, 0, none⟩) k c) (L.take k) := by
  have hN := h.len
  subst hN
  have hlen : (L.take k).length = k := by rw [List.length_take]; omega
  refine ⟨?_, fun x hx => h.2 x (List.mem_of_mem_take hx)⟩
  rcases h.1.2 with ⟨e, _⟩ | ⟨g', cap', cur, e, q1, q2, q3, q4, q5, q6⟩
  · cases e
  · injection e with e1 e2 e3
    injection e1 with e1
    injection e1 with e1
    subst e1 e3
    refine ⟨by rw [hlen, hflat_len, hlen], .inr ⟨g, c, cur, by rw [hlen], q1, q2, by omega, q4, q5, ?_⟩⟩
    rw [hlen]
    have e4 : (L.take k).flatMap hc2 = (L.flatMap hc2).take (k * 2) := by
      apply List.ext_getElem?
      intro j
      rw [List.getElem?_take]
      by_cases hj : j < k * 2
      · rw [if_pos hj]
        have hjk : j / 2 < L.length := by omega
        have e5 : (L.take k)[j / 2]? = some (hAt L (j / 2)) := by rw [List.getElem?_take, if_pos (by omega)]; exact hAt_some hjk
        have e6 := hflat_at (L.take k) (j / 2) (j % 2) _ e5 (by omega)
        have e7 := hflat_at L (j / 2) (j % 2) _ (hAt_some hjk) (by omega)
        rw [show j / 2 * 2 + j % 2 = j by omega] at e6 e7
        rw [e6, e7]
      · rw [if_neg hj, List.getElem?_eq_none (by rw [hflat_len, hlen]; omega)]
    rw [e4, ← q6, List.take_take]
    congr 1
    omega
/-- What lies behind the heads: the rows that their runs still hold. -/
def restOf (Y : Yv) (L : List Hd) : List (List Val) := (L.map fun h => h.r :: (Y.runs.getD h.i [])).flatten
/-- A merger at work, over a yard. -/
structure Mg (ks : List (Int × Bool)) (Y : Yv) (op : Option Nat) (L : List Hd) : Prop where
  heap : Hp ks 0 L
  there : ∀ h ∈ L, Y.there[h.i]? = some true ∧ op ≠ some h.i ∧ h.i < Y.runs.length
  once : (L.map Hd.i).Nodup
  sort : ∀ h ∈ L, (h.r :: (Y.runs.getD h.i [])).Pairwise fun x y => ordG ks x y ≤ 0
  clean : ∀ h ∈ L, ∀ x ∈ (Y.runs.getD h.i []), cleanR x = x
end Go.Proofs.YtcbenpodohjbiaaGreat
set_option linter.unusedSimpArgs false
set_option linter.unusedVariables false
set_option maxRecDepth 100000
namespace Go.Proofs.YtcbenpodohjbiaaGreat
open Go.RowKit Go.Sort

/-- A merger, and its yard. -/
def Mw (w : World) (b y m mg B : Nat) (ks : List (Int × Bool)) (Y : Yv) (op : Option Nat) (L : List Hd) (F : Nat → Prop) : Prop :=
  ¬ F y ∧ F mg ∧ ∃ F0 vH, (∀ k, F0 k → F k) ∧ ¬ F0 mg ∧ (∀ g, vH.ownBlock = some g → F g ∧ ¬ F0 g) ∧ Yw w b y m Y op F0 ∧ Mx w mg y B vH ∧ OwnH w vH L ∧ OrdF w B ks
theorem Mw.ky {G F : Nat → Prop} {w w' : World} {b y m mg B : Nat} {ks : List (Int × Bool)} {Y : Yv} {op : Option Nat} {L : List Hd} (h : Mw w b y m mg B ks Y op L F) (hk : Ky G w w') (hn : ∀ k, G k → ¬ F k) (hy : ¬ G y) : Mw w' b y m mg B ks Y op L F := by
  obtain ⟨h1, h2, F0, vH, h3, h4, h5, h6, h7, h8, h9⟩ := h
  exact ⟨h1, h2, F0, vH, h3, h4, h5, h6.ky hk (fun k g f => hn k g (h3 k f)) hy, h7.ky hk (fun g => hn mg g h2), h8.ky hk (fun g e k => hn g k (h5 g e).1), h9.ky hk⟩
def Mo (w w' : World) (b y m mg B : Nat) (ks : List (Int × Bool)) (Y' : Yv) (op : Option Nat) (L : List Hd) (F : Nat → Prop) : Prop := ∃ F', Nw F F' w ∧ (∀ k, F k → F' k) ∧ Mw w' b y m mg B ks Y' op L F' ∧ Ky F w w'
theorem Mw.under {F F0 : Nat → Prop} {w w' : World} {b y m mg B : Nat} {ks : List (Int × Bool)} {Y' : Yv} {op : Option Nat} {L : List Hd} {vH : Value} (h1 : ¬ F y) (h2 : F mg) (h3 : ∀ k, F0 k → F k) (h4 : ¬ F0 mg) (h5 : ∀ g, vH.ownBlock = some g → F g ∧ ¬ F0 g) (h7 : Mx w mg y B vH) (h8 : OwnH w vH L) (h9 : OrdF w B ks) (hY : Yo w w' b y m Y' op F0) : Mo w w' b y m mg B ks Y' op L F := by
  obtain ⟨F1, a1, a2, a3, a4⟩ := hY
  refine ⟨fun k => F k ∨ F1 k, fun k hk => ?_, fun k hk => .inl hk, ⟨fun e => ?_, .inl h2, F1, vH, fun k hk => .inr hk, fun e => ?_, fun g e => ⟨.inl (h5 g e).1, fun k => ?_⟩, a3, h7.ky a4 h4, h8.ky a4 (fun g e => (h5 g e).2), h9.ky a4⟩, a4.mono h3⟩
  · rcases hk with hk | hk
    · exact .inl hk
    · exact (a1 k hk).imp (h3 k) id
  · rcases e with e | e
    · exact h1 e
    · exact a3.1 e
  · rcases a1 mg e with r | r
    · exact h4 r
    · have := h7.tg.lt; omega
  · rcases a1 g k with r | r
    · exact (h5 g e).2 r
    · have := (own_tg h8.1 e).lt; omega
theorem Mo.trans {w w1 w2 : World} {b y m mg B : Nat} {ks : List (Int × Bool)} {Y1 Y2 : Yv} {op1 op2 : Option Nat} {i1 i2 : List Hd} {F : Nat → Prop} (h : Mo w w1 b y m mg B ks Y1 op1 i1 F) (h2 : ∀ F', Mw w1 b y m mg B ks Y1 op1 i1 F' → Mo w1 w2 b y m mg B ks Y2 op2 i2 F') : Mo w w2 b y m mg B ks Y2 op2 i2 F := by
  obtain ⟨F1, a1, a2, a3, a4⟩ := h
  obtain ⟨F2, b1, b2, b3, b4⟩ := h2 F1 a3
  exact ⟨F2, a1.trans b1 a4.size, fun k hk => b2 k (a2 k hk), b3, a4.trans b4 a1⟩
/-- The row of a head is another. -/
theorem OwnH.row {w : World} {g N c j : Nat} {L : List Hd} {u : Value} {r : List Val} (h : OwnH w (.slice (some ⟨g, 0, none⟩) N c) L) (hj : j < N) (hx : Rw w u r) : OwnH (w.setCell ⟨g, j * 2, none⟩ u) (.slice (some ⟨g, 0, none⟩) N c) (L.set j ⟨u, r, (hAt L j).i⟩) ∧ Ky (fun k => k = g) w (w.setCell ⟨g, j * 2, none⟩ u) := by
  have hN := h.len
  subst hN
  have tg : Tg 120 w g := own_tg h.1 rfl
  have h1 := (World.ownsRow.stored h.1 (j * 2) u).1
  have hk : Ky (fun k => k = g) w (w.setCell ⟨g, j * 2, none⟩ u) := (Ky.refl (fun k => k = g) w).set (F := fun k => k = g) rfl tg (by decide) _ _
  have e1 : (L.flatMap hc2).set (j * 2) u = (L.set j ⟨u, r, (hAt L j).i⟩).flatMap hc2 := by
    rw [← hflat_set L j ⟨u, r, (hAt L j).i⟩ hj]
    have e2 := hflat_at L j 1 _ (hAt_some hj) (by omega)
    apply List.ext_getElem?
    intro k
    simp only [List.getElem?_set]
    by_cases e3 : j * 2 + 1 = k
    · subst e3
      rw [if_neg (by omega), if_pos rfl, List.length_set, if_pos (by rw [hflat_len]; omega), e2]
      rfl
    · rw [if_neg e3]
  rw [e1] at h1
  refine ⟨⟨by rw [List.length_set]; exact h1, fun y hy => ?_⟩, hk⟩
  rcases List.mem_or_eq_of_mem_set hy with q | q
  · exact (h.2 y q).ky hk
  · subst q; exact hx.ky hk
theorem Hp.top {ks : List (Int × Bool)} {L : List Hd} (h : Hp ks 0 L) (x : Hd) : Hp ks 1 (L.set 0 x) := fun j c h1 h2 h3 => by
  rw [List.length_set] at h3
  have h0 : 0 < L.length := by omega
  rw [hAt_set h0, hAt_set h0, if_neg (by omega), if_neg (by omega)]
  exact h j c (Nat.zero_le _) h2 h3
theorem hAt_take {L : List Hd} {k j : Nat} (h : j < k) : hAt (L.take k) j = hAt L j := by
  unfold hAt
  rw [List.getD_eq_getElem?_getD, List.getD_eq_getElem?_getD, List.getElem?_take, if_pos h]
theorem Hp.less {ks : List (Int × Bool)} {i k : Nat} {L : List Hd} (h : Hp ks i L) : Hp ks i (L.take k) := fun j c h1 h2 h3 => by
  rw [List.length_take] at h3
  rw [hAt_take (by omega), hAt_take (by omega)]
  exact h j c h1 h2 (by omega)
/-- The last stands first. -/
theorem last_first {L : List Hd} {n : Nat} (h : L.length = n + 1) : ((L.set 0 (hAt L n)).take n).Perm L.tail := by
  match L, h with
  | x :: t, h =>
    have ht : t.length = n := by simpa using h
    rcases Nat.eq_zero_or_pos n with e | e
    · subst e
      have : t = [] := List.eq_nil_of_length_eq_zero ht
      subst this
      simp
    · obtain ⟨k, rfl⟩ : ∃ k, n = k + 1 := ⟨n - 1, by omega⟩
      have hne : t ≠ [] := fun e => by rw [e] at ht; simp at ht
      have e1 : hAt (x :: t) (k + 1) = t.getLast hne := by
        unfold hAt
        rw [List.getD_eq_getElem?_getD, List.getElem?_cons_succ, List.getLast_eq_getElem, List.getElem?_eq_getElem (by omega)]
        simp [ht]
      rw [e1, List.set_cons_zero, List.take_succ_cons, List.tail_cons]
      have e2 : t.take k = t.dropLast := by rw [List.dropLast_eq_take, ht]; rfl
      rw [e2]
      have e3 := List.dropLast_concat_getLast hne
      have e4 : (t.getLast hne :: t.dropLast).Perm (t.dropLast ++ [t.getLast hne]) := (List.perm_append_singleton _ _).symm
      rw [e3] at e4
      exact e4
end Go.Proofs.YtcbenpodohjbiaaGreat
set_option linter.unusedSimpArgs false
set_option linter.unusedVariables false
set_option maxRecDepth 100000
namespace Go.Proofs.YtcbenpodohjbiaaGreat
open Go.RowKit Go.Sort

theorem OwnH.some {w : World} {vH : Value} {L : List Hd} (h : OwnH w vH L) (hL : 0 < L.length) : ∃ g cH, vH = .slice (some ⟨g, 0, none⟩) L.length cH ∧ L.length ≤ cH := by
  rcases h.1.2 with ⟨_, h0⟩ | ⟨g, cap, cur, e, _, _, h2, _⟩
  · omega
  · exact ⟨g, cap, e, h2⟩
theorem Yo.from {F : Nat → Prop} {w w0 w' : World} {b y m : Nat} {Y : Yv} {op : Option Nat} (hb : Below w.heap.size w w0) (h : Yo w0 w' b y m Y op F) : Yo w w' b y m Y op F := by
  obtain ⟨F1, a1, a2, a3, a4⟩ := h
  exact ⟨F1, fun k hk => (a1 k hk).imp id (fun q => by have := hb.size; omega), a2, a3, (Ky.of_below hb).trans a4 (Nw.refl _ _)⟩

set_option maxHeartbeats 4000000 in
/-- step (67), refused. -/
theorem step_hit {F : Nat → Prop} {w : World} {b y m mg B : Nat} {ks : List (Int × Bool)} {Y : Yv} {op : Option Nat} {L : List Hd} (h : Mw w b y m mg B ks Y op L F) (hL : 0 < L.length) (hrd : Y.rd = false) (hit : Y.hit = true) (hcd : Y.cd ≠ 0) :
    Calls Tryz.prog 67 #[.pointer (some ⟨mg, 0, none⟩)] w fun e w' => e = .returned (.int .i64 Y.cd) ∧ Mo w w' b y m mg B ks Y.tick op L F := by
  obtain ⟨h1, h2, F0, vH, h3, h4, h5, h6, h7, h8, h9⟩ := h
  obtain ⟨g, cH, rfl, hcap⟩ := h8.some hL
  obtain ⟨_, d1, _, _, _⟩ := h8.at (j := 0) hL
  have hbd : Below w.heap.size w w.drew := (Below.refl _ _).drew
  have HC := hide (ynext_hit ((hAt L 0).i : Nat) (h6.later hbd) hrd hit hcd)
  have c0 := h7.c0
  have c2 := h7.c2
  simp only [Nat.zero_mul, Nat.zero_add] at d1
  have j0 : (0 : Int) < (L.length : Int) := by omega
  have hcd' : (Y.cd != 0) = true := by simpa using hcd
  have HF : Hid (∀ w', Yo w.drew w' b y m Y.tick op F0 → Mo w w' b y m mg B ks Y.tick op L F) := fun w' hY => Mw.under h1 h2 h3 h4 h5 h7 h8 h9 (Yo.from hbd hY)
  generalize (hAt L 0).i = i0 at *
  clear h3 h5 h6 h7 h8 h9 hit hrd
  go_enter Tryz.func67, Tryz.ntmps67
  go_upto_region 1 with fail
  go_region_with (first | (go_at_call 99; refine (unhide HC).mono ?_; rintro _ w1 ⟨rfl, hY⟩))
  all_goals (go_wp2; go_ret)
  all_goals exact ⟨rfl, unhide HF _ hY⟩
end Go.Proofs.YtcbenpodohjbiaaGreat

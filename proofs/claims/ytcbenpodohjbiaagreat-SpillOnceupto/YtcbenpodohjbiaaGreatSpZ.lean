import Derived.Test.YtcbenpodohjbiaaGreatSpY
import Derived.Test.YtcbenpodohjbiaaGreatSpT
set_option linter.unusedSimpArgs false
set_option linter.unusedVariables false
set_option maxRecDepth 100000
namespace Go.Proofs.YtcbenpodohjbiaaGreat
open Go.RowKit Go.Sort

/-- Slice to k: of heads. -/
theorem slice_to115 (g n c k : Nat) (W : World) (hk : k ≤ c) : (Instr.slice 115 (.slice (some ⟨g, 0, none⟩) n c) none (some (.int .i64 (k : Int))) none).run Tryz.prog W = .ok (.slice (some ⟨g, 0, none⟩) k c) W := by
  have hi : (Tryz.prog.info? 120).map (fun i => (i.zero, i.size, i.bytes)) = some (some (.agg #[.slice none 0 0, .int .i64 0]), 2, 32) := by kernel_rfl
  obtain ⟨i, hi, _, hz, _⟩ := info_parts hi
  have h1 : ¬ (c : Int) < (k : Int) := by omega
  have h2 : (k : Int) ≤ (c : Int) := by omega
  simp [Instr.slice, run_underlying Tryz.underlying115, Instr.sliceBounds, Instr.sliceBound, asIntOf, sizeOf, typeInfo, hi, hz, h1, h2, Addr.add]
  intro h
  omega
theorem OwnH.take {w : World} {g N c k : Nat} {L : List Hd} (h : OwnH w (.slice (some ⟨g, 0, none⟩) N c) L) (hk : k ≤ N) : OwnH w (.slice (some ⟨g, 0, none⟩) k c) (L.take k) := by
  have hN := h.len
  subst hN
  have hlen : (L.take k).length = k := by rw [List.length_take]; omega
  refine ⟨?_, fun x hx => h.2 x (List.mem_of_mem_take hx)⟩
  rcases h.1.2 with ⟨e, _⟩ | ⟨g', cap', cur, e, q1, q2, q3, q4, q5, q6⟩
  · cases e
  · injection e with e1 e2 e3
    injection e1 with e1
    injection e1 with e1
    subst e1 e3
    refine ⟨by rw [hlen, hflat_len, hlen], .inr ⟨g, c, cur, by rw [hlen], q1, q2, by omega, q4, q5, ?_⟩⟩
    rw [hlen]
    have e4 : (L.take k).flatMap hc2 = (L.flatMap hc2).take (k * 2) := by
      apply List.ext_getElem?
      intro j
      rw [List.getElem?_take]
      by_cases hj : j < k * 2
      · rw [if_pos hj]
        have hjk : j / 2 < L.length := by omega
        have e5 : (L.take k)[j / 2]? = some (hAt L (j / 2)) := by rw [List.getElem?_take, if_pos (by omega)]; exact hAt_some hjk
        have e6 := hflat_at (L.take k) (j / 2) (j % 2) _ e5 (by omega)
        have e7 := hflat_at L (j / 2) (j % 2) _ (hAt_some hjk) (by omega)
        rw [show j / 2 * 2 + j % 2 = j by omega] at e6 e7
        rw [e6, e7]
      · rw [if_neg hj, List.getElem?_eq_none (by rw [hflat_len, hlen]; omega)]
    rw [e4, ← q6, List.take_take]
    congr 1
    omega
/-- What lies behind the heads: the rows that their runs still hold. -/
def restOf (Y : Yv) (L : List Hd) : List (List Val) := (L.map fun h => h.r :: (Y.runs.getD h.i [])).flatten
/-- A merger at work, over a yard. -/
structure Mg (ks : List (Int × Bool)) (Y : Yv) (op : Option Nat) (L : List Hd) : Prop where
  heap : Hp ks 0 L
  there : ∀ h ∈ L, Y.there[h.i]? = some true ∧ op ≠ some h.i ∧ h.i < Y.runs.length
  once : (L.map Hd.i).Nodup
  sort : ∀ h ∈ L, (h.r :: (Y.runs.getD h.i [])).Pairwise fun x y => ordG ks x y ≤ 0
  clean : ∀ h ∈ L, ∀ x ∈ (Y.runs.getD h.i []), cleanR x = x
end Go.Proofs.YtcbenpodohjbiaaGreat
set_option linter.unusedSimpArgs false
set_option linter.unusedVariables false
set_option maxRecDepth 100000
namespace Go.Proofs.YtcbenpodohjbiaaGreat
open Go.RowKit Go.Sort

/-- A merger, and its yard. -/
def Mw (w : World) (b y m mg B : Nat) (ks : List (Int × Bool)) (Y : Yv) (op : Option Nat) (L : List Hd) (F : Nat → Prop) : Prop :=
  ¬ F y ∧ F mg ∧ ∃ F0 vH, (∀ k, F0 k → F k) ∧ ¬ F0 mg ∧ (∀ g, vH.ownBlock = some g → F g ∧ ¬ F0 g) ∧ Yw w b y m Y op F0 ∧ Mx w mg y B vH ∧ OwnH w vH L ∧ OrdF w B ks
theorem Mw.ky {G F : Nat → Prop} {w w' : World} {b y m mg B : Nat} {ks : List (Int × Bool)} {Y : Yv} {op : Option Nat} {L : List Hd} (h : Mw w b y m mg B ks Y op L F) (hk : Ky G w w') (hn : ∀ k, G k → ¬ F k) (hy : ¬ G y) : Mw w' b y m mg B ks Y op L F := by
  obtain ⟨h1, h2, F0, vH, h3, h4, h5, h6, h7, h8, h9⟩ := h
  exact ⟨h1, h2, F0, vH, h3, h4, h5, h6.ky hk (fun k g f => hn k g (h3 k f)) hy, h7.ky hk (fun g => hn mg g h2), h8.ky hk (fun g e k => hn g k (h5 g e).1), h9.ky hk⟩
def Mo (w w' : World) (b y m mg B : Nat) (ks : List (Int × Bool)) (Y' : Yv) (op : Option Nat) (L : List Hd) (F : Nat → Prop) : Prop := ∃ F', Nw F F' w ∧ (∀ k, F k → F' k) ∧ Mw w' b y m mg B ks Y' op L F' ∧ Ky F w w'
theorem Mw.under {F F0 : Nat → Prop} {w w' : World} {b y m mg B : Nat} {ks : List (Int × Bool)} {Y' : Yv} {op : Option Nat} {L : List Hd} {vH : Value} (h1 : ¬ F y) (h2 : F mg) (h3 : ∀ k, F0 k → F k) (h4 : ¬ F0 mg) (h5 : ∀ g, vH.ownBlock = some g → F g ∧ ¬ F0 g) (h7 : Mx w mg y B vH) (h8 : OwnH w vH L) (h9 : OrdF w B ks) (hY : Yo w w' b y m Y' op F0) : Mo w w' b y m mg B ks Y' op L F := by
  obtain ⟨F1, a1, a2, a3, a4⟩ := hY
  refine ⟨fun k => F k ∨ F1 k, fun k hk => ?_, fun k hk => .inl hk, ⟨fun e => ?_, .inl h2, F1, vH, fun k hk => .inr hk, fun e => ?_, fun g e => ⟨.inl (h5 g e).1, fun k => ?_⟩, a3, h7.ky a4 h4, h8.ky a4 (fun g e => (h5 g e).2), h9.ky a4⟩, a4.mono h3⟩
  · rcases hk with hk | hk
    · exact .inl hk
    · exact (a1 k hk).imp (h3 k) id
  · rcases e with e | e
    · exact h1 e
    · exact a3.1 e
  · rcases a1 mg e with r | r
    · exact h4 r
    · have := h7.tg.lt; omega
  · rcases a1 g k with r | r
    · exact (h5 g e).2 r
    · have := (own_tg h8.1 e).lt; omega
theorem Mo.trans {w w1 w2 : World} {b y m mg B : Nat} {ks : List (Int × Bool)} {Y1 Y2 : Yv} {op1 op2 : Option Nat} {i1 i2 : List Hd} {F : Nat → Prop} (h : Mo w w1 b y m mg B ks Y1 op1 i1 F) (h2 : ∀ F', Mw w1 b y m mg B ks Y1 op1 i1 F' → Mo w1 w2 b y m mg B ks Y2 op2 i2 F') : Mo w w2 b y m mg B ks Y2 op2 i2 F := by
  obtain ⟨F1, a1, a2, a3, a4⟩ := h
  obtain ⟨F2, b1, b2, b3, b4⟩ := h2 F1 a3
  exact ⟨F2, a1.trans b1 a4.size, fun k hk => b2 k (a2 k hk), b3, a4.trans b4 a1⟩
/-- The row of a head is another. -/
theorem OwnH.row {w : World} {g N c j : Nat} {L : List Hd} {u : Value} {r : List Val} (h : OwnH w (.slice (some ⟨g, 0, none⟩) N c) L) (hj : j < N) (hx : Rw w u r) : OwnH (w.setCell ⟨g, j * 2, none⟩ u) (.slice (some ⟨g, 0, none⟩) N c) (L.set j ⟨u, r, (hAt L j).i⟩) ∧ Ky (fun k => k = g) w (w.setCell ⟨g, j * 2, none⟩ u) := by
  have hN := h.len
  subst hN
  have tg : Tg 120 w g := own_tg h.1 rfl
  have h1 := (World.ownsRow.stored h.1 (j * 2) u).1
  have hk : Ky (fun k => k = g) w (w.setCell ⟨g, j * 2, none⟩ u) := (Ky.refl (fun k => k = g) w).set (F := fun k => k = g) rfl tg (by decide) _ _
  have e1 : (L.flatMap hc2).set (j * 2) u = (L.set j ⟨u, r, (hAt L j).i⟩).flatMap hc2 := by
    rw [← hflat_set L j ⟨u, r, (hAt L j).i⟩ hj]
    have e2 := hflat_at L j 1 _ (hAt_some hj) (by omega)
    apply List.ext_getElem?
    intro k
    simp only [List.getElem?_set]
    by_cases e3 : j * 2 + 1 = k
    · subst e3
      rw [if_neg (by omega), if_pos rfl, List.length_set, if_pos (by rw [hflat_len]; omega), e2]
      rfl
    · rw [if_neg e3]
  rw [e1] at h1
  refine ⟨⟨by rw [List.length_set]; exact h1, fun y hy => ?_⟩, hk⟩
  rcases List.mem_or_eq_of_mem_set hy with q | q
  · exact (h.2 y q).ky hk
  · subst q; exact hx.ky hk
theorem Hp.top {ks : List (Int × Bool)} {L : List Hd} (h : Hp ks 0 L) (x : Hd) : Hp ks 1 (L.set 0 x) := fun j c h1 h2 h3 => by
  rw [List.length_set] at h3
  have h0 : 0 < L.length := by omega
  rw [hAt_set h0, hAt_set h0, if_neg (by omega), if_neg (by omega)]
  exact h j c (Nat.zero_le _) h2 h3
theorem hAt_take {L : List Hd} {k j : Nat} (h : j < k) : hAt (L.take k) j = hAt L j := by
  unfold hAt
  rw [List.getD_eq_getElem?_getD, List.getD_eq_getElem?_getD, List.getElem?_take, if_pos h]
theorem Hp.less {ks : List (Int × Bool)} {i k : Nat} {L : List Hd} (h : Hp ks i L) : Hp ks i (L.take k) := fun j c h1 h2 h3 => by
  rw [List.length_take] at h3
  rw [hAt_take (by omega), hAt_take (by omega)]
  exact h j c h1 h2 (by omega)
/-- The last stands first. -/
theorem last_first {L : List Hd} {n : Nat} (h : L.length = n + 1) : ((L.set 0 (hAt L n)).take n).Perm L.tail := by
  match L, h with
  | x :: t, h =>
    have ht : t.length = n := by simpa using h
    rcases Nat.eq_zero_or_pos n with e | e
    · subst e
      have : t = [] := List.eq_nil_of_length_eq_zero ht
      subst this
      simp
    · obtain ⟨k, rfl⟩ : ∃ k, n = k + 1 := ⟨n - 1, by omega⟩
      have hne : t ≠ [] := fun e => by rw [e] at ht; simp at ht
      have e1 : hAt (x :: t) (k + 1) = t.getLast hne := by
        unfold hAt
        rw [List.getD_eq_getElem?_getD, List.getElem?_cons_succ, List.getLast_eq_getElem, List.getElem?_eq_getElem (by omega)]
        simp [ht]
      rw [e1, List.set_cons_zero, List.take_succ_cons, List.tail_cons]
      have e2 : t.take k = t.dropLast := by rw [List.dropLast_eq_take, ht]; rfl
      rw [e2]
      have e3 := List.dropLast_concat_getLast hne
      have e4 : (t.getLast hne :: t.dropLast).Perm (t.dropLast ++ [t.getLast hne]) := (List.perm_append_singleton _ _).symm
      rw [e3] at e4
      exact e4
end Go.Proofs.YtcbenpodohjbiaaGreat
set_option linter.unusedSimpArgs false
set_option linter.unusedVariables false
namespace Go.Proofs.YtcbenpodohjbiaaGreat

/-! What merge keeps, pure. -/
theorem srt_eq {ks : List (Int × Bool)} {A B : List (List Val)} (hA : A.Pairwise fun x y => ordG ks x y ≤ 0) (hB : B.Pairwise fun x y => ordG ks x y ≤ 0) (hp : A.Perm B) (hc : ∀ x ∈ A, cleanR x = x) : A = B :=
  List.Perm.eq_of_pairwise (le := fun x y => ordG ks x y ≤ 0) (fun a b ha hb h3 h4 => by
    have := ordG_anti ks a b
    have := ordG_eq (ks := ks) (x := a) (y := b) (by omega)
    rw [hc a ha, hc b (hp.mem_iff.2 hb)] at this
    exact this) hA hB hp
/-- The rows that are still to come. -/
def restR (R : List (List (List Val))) (L : List Hd) : List (List Val) := (L.map fun h => h.r :: R.getD h.i []).flatten
theorem restR_cons (R : List (List (List Val))) (x : Hd) (t : List Hd) : restR R (x :: t) = x.r :: (R.getD x.i [] ++ restR R t) := by
  unfold restR
  rw [List.map_cons, List.flatten_cons, List.cons_append]
theorem restR_perm {R : List (List (List Val))} {L L' : List Hd} (h : L.Perm L') : (restR R L).Perm (restR R L') := (h.map _).flatten
theorem getD_set_ne {α : Type} {l : List α} {i j : Nat} {v d : α} (h : i ≠ j) : (l.set i v).getD j d = l.getD j d := by
  rw [List.getD_eq_getElem?_getD, List.getD_eq_getElem?_getD, List.getElem?_set, if_neg h]
theorem restR_set {R : List (List (List Val))} {i : Nat} {v : List (List Val)} : ∀ {t : List Hd}, i ∉ t.map Hd.i → restR (R.set i v) t = restR R t
  | [], _ => rfl
  | x :: t, h => by
    rw [List.map_cons, List.mem_cons] at h
    rw [restR_cons, restR_cons, getD_set_ne (by intro e; exact h (.inl e)), restR_set (fun q => h (.inr q))]
/-- What merge keeps of its heads. -/
structure Mk (ks : List (Int × Bool)) (R : List (List (List Val))) (L : List Hd) : Prop where
  once : (L.map Hd.i).Nodup
  lt : ∀ h ∈ L, h.i < R.length
  sort : ∀ h ∈ L, (h.r :: R.getD h.i []).Pairwise fun x y => ordG ks x y ≤ 0
  clean : ∀ h ∈ L, ∀ x ∈ R.getD h.i [], cleanR x = x
theorem Mk.perm {ks : List (Int × Bool)} {R : List (List (List Val))} {L L' : List Hd} (h : Mk ks R L) (hp : L'.Perm L) : Mk ks R L' :=
  ⟨(hp.map Hd.i).nodup_iff.2 h.once, fun x hx => h.lt x (hp.mem_iff.1 hx), fun x hx => h.sort x (hp.mem_iff.1 hx), fun x hx => h.clean x (hp.mem_iff.1 hx)⟩
/-- The first head is not behind anything that is to come. -/
theorem Mk.min {ks : List (Int × Bool)} {R : List (List (List Val))} {L : List Hd} (h : Mk ks R L) (hp : Hp ks 0 L) : ∀ x ∈ restR R L, ordG ks (hAt L 0).r x ≤ 0 := fun x hx => by
  unfold restR at hx
  obtain ⟨l, hl, hxl⟩ := List.mem_flatten.1 hx
  obtain ⟨q, hq, rfl⟩ := List.mem_map.1 hl
  obtain ⟨j, hj⟩ := List.getElem?_of_mem hq
  have hjl : j < L.length := (List.getElem?_eq_some_iff.1 hj).1
  have e : hAt L j = q := by unfold hAt; rw [List.getD_eq_getElem?_getD, hj]; rfl
  have h1 := hp.min j hjl
  rw [e] at h1
  rcases List.mem_cons.1 hxl with r | r
  · rw [r]; exact h1
  · exact ordG_le ks _ _ _ h1 (List.rel_of_pairwise_cons (h.sort q hq) r)
/-- A step where the run has a row. -/
theorem Mk.row {ks : List (Int × Bool)} {R : List (List (List Val))} {L L' : List Hd} {u : Value} {r : List Val} {rs : List (List Val)} (h : Mk ks R L) (hL : 0 < L.length) (hr : R[(hAt L 0).i]? = some (r :: rs)) (hp : L'.Perm (⟨u, cleanR r, (hAt L 0).i⟩ :: L.tail)) : Mk ks (R.set (hAt L 0).i rs) L' ∧ (restR R L).Perm ((hAt L 0).r :: restR (R.set (hAt L 0).i rs) L') ∧ L'.length = L.length := by
  match L, hL with
  | x :: t, _ =>
    change R[x.i]? = some (r :: rs) at hr
    change L'.Perm (⟨u, cleanR r, x.i⟩ :: t) at hp
    show Mk ks (R.set x.i rs) L' ∧ (restR R (x :: t)).Perm (x.r :: restR (R.set x.i rs) L') ∧ L'.length = (x :: t).length
    have hxi : x.i < R.length := (List.getElem?_eq_some_iff.1 hr).1
    have hg : R.getD x.i [] = r :: rs := by rw [List.getD_eq_getElem?_getD, hr]; rfl
    have hg2 : (R.set x.i rs).getD x.i [] = rs := by rw [List.getD_eq_getElem?_getD, List.getElem?_set, if_pos rfl, if_pos hxi]; rfl
    have hcl : cleanR r = r := h.clean x (by simp) r (by rw [hg]; simp)
    have hno := h.once
    rw [List.map_cons, List.nodup_cons] at hno
    have hM : Mk ks (R.set x.i rs) (⟨u, cleanR r, x.i⟩ :: t) := by
      refine ⟨by rw [List.map_cons, List.nodup_cons]; exact hno, fun y hy => ?_, fun y hy => ?_, fun y hy z hz => ?_⟩
      · rw [List.length_set]
        rcases List.mem_cons.1 hy with q | q
        · subst q; exact hxi
        · exact h.lt y (by simp [q])
      · rcases List.mem_cons.1 hy with q | q
        · subst q
          show (cleanR r :: (R.set x.i rs).getD x.i []).Pairwise _
          rw [hg2, hcl]
          have := h.sort x (by simp)
          rw [hg] at this
          exact (List.pairwise_cons.1 this).2
        · rw [getD_set_ne (by intro e; exact hno.1 (by rw [e]; exact List.mem_map.2 ⟨y, q, rfl⟩))]
          exact h.sort y (by simp [q])
      · rcases List.mem_cons.1 hy with q | q
        · subst q
          change z ∈ (R.set x.i rs).getD x.i [] at hz
          rw [hg2] at hz
          exact h.clean x (by simp) z (by rw [hg]; simp [hz])
        · rw [getD_set_ne (by intro e; exact hno.1 (by rw [e]; exact List.mem_map.2 ⟨y, q, rfl⟩))] at hz
          exact h.clean y (by simp [q]) z hz
    refine ⟨hM.perm hp, ?_, by rw [hp.length_eq]; rfl⟩
    rw [restR_cons, hg]
    refine List.Perm.cons _ ?_
    refine List.Perm.trans ?_ (restR_perm hp).symm
    rw [restR_cons, hg2, restR_set hno.1, hcl]
    exact List.Perm.refl _
/-- A step where the run has no more rows. -/
theorem Mk.end_ {ks : List (Int × Bool)} {R : List (List (List Val))} {L L' : List Hd} (h : Mk ks R L) (hL : 0 < L.length) (hr : R[(hAt L 0).i]? = some []) (hp : L'.Perm L.tail) : Mk ks (R.set (hAt L 0).i []) L' ∧ (restR R L).Perm ((hAt L 0).r :: restR (R.set (hAt L 0).i []) L') ∧ L'.length + 1 = L.length := by
  match L, hL with
  | x :: t, _ =>
    change R[x.i]? = some [] at hr
    change L'.Perm t at hp
    show Mk ks (R.set x.i []) L' ∧ (restR R (x :: t)).Perm (x.r :: restR (R.set x.i []) L') ∧ L'.length + 1 = (x :: t).length
    have hg : R.getD x.i [] = [] := by rw [List.getD_eq_getElem?_getD, hr]; rfl
    have hno := h.once
    rw [List.map_cons, List.nodup_cons] at hno
    have hM : Mk ks (R.set x.i []) t := by
      refine ⟨hno.2, fun y hy => ?_, fun y hy => ?_, fun y hy z hz => ?_⟩
      · rw [List.length_set]; exact h.lt y (by simp [hy])
      · rw [getD_set_ne (by intro e; exact hno.1 (by rw [e]; exact List.mem_map.2 ⟨y, hy, rfl⟩))]
        exact h.sort y (by simp [hy])
      · rw [getD_set_ne (by intro e; exact hno.1 (by rw [e]; exact List.mem_map.2 ⟨y, hy, rfl⟩))] at hz
        exact h.clean y (by simp [hy]) z hz
    refine ⟨hM.perm hp, ?_, by rw [hp.length_eq]; rfl⟩
    rw [restR_cons, hg, List.nil_append]
    refine List.Perm.cons _ ?_
    refine List.Perm.trans ?_ (restR_perm hp).symm
    rw [restR_set hno.1]
end Go.Proofs.YtcbenpodohjbiaaGreat
set_option linter.unusedSimpArgs false
set_option linter.unusedVariables false
set_option maxRecDepth 100000
namespace Go.Proofs.YtcbenpodohjbiaaGreat
open Go.RowKit Go.Sort

/-- clear(rows). -/
theorem clear_lst {w : World} {g n c : Nat} {rs : List (List Val)} (h : Lst w (.slice (some ⟨g, 0, none⟩) n c) rs) (hn : n = rs.length) (h0 : 0 < n) :
    ∃ w', (∀ ty : TypeId, (Builtin.clear_ #[22] ty #[.slice (some ⟨g, 0, none⟩) n c]).run Tryz.prog w = .ok (.tuple #[]) w') ∧ Lst w' (.slice (some ⟨g, 0, none⟩) 0 c) [] ∧ Ky (fun k => k = g) w w' := by
  obtain ⟨us, hul, hown, hrw⟩ := h
  subst hn
  have tg : Tg 70 w g := own_tg hown rfl
  rcases hown.2 with ⟨e, _⟩ | ⟨g', cap', cur, e, hb, hh, hnc, hcm, hcs, htake⟩
  · cases e
  injection e with e1 e2 e3
  injection e1 with e1
  injection e1 with e1
  subst e1 e3
  have hst := run_storeCells_at (P := Tryz.prog) g 0 70 (Builtin.zeroCells #[.slice none 0 0] rs.length).toList 0 cur w hh (by simp [Builtin.zeroCells, hcs]; omega) (by
    intro v hv
    simp only [Builtin.zeroCells, Array.toList_map, List.mem_map] at hv
    obtain ⟨q, _, rfl⟩ := hv
    have : q % 1 = 0 := Nat.mod_one q
    simp [this]; rfl)
  refine ⟨w.setRow g (cur.toList.take (0 + 0) ++ (Builtin.zeroCells #[.slice none 0 0] rs.length).toList ++ cur.toList.drop (0 + 0 + (Builtin.zeroCells #[.slice none 0 0] rs.length).toList.length)).toArray, ?_, ⟨[], rfl, ⟨rfl, .inr ⟨g, c, _, rfl, Nat.zero_le _, setRow_heap w g cur _ 70 _ hh, Nat.zero_le _, hcm, ?_, by simp⟩⟩, fun i u r hu => by simp at hu⟩, ?_⟩
  · intro ty
    obtain ⟨q, hq⟩ : ∃ q, rs.length = q + 1 := ⟨rs.length - 1, by omega⟩
    rw [hq] at hst ⊢
    have hv : ∀ w, (zeroValue 70).run Tryz.prog w = .ok (.slice none 0 0) w := fun w => by kernel_rfl
    simp only [Nat.add_zero] at hst
    simp [Builtin.clear_, run_underlying Tryz.underlying22, hv, hst, Value.cells]
  · have hz : (Builtin.zeroCells #[Value.slice none 0 0] rs.length).size = rs.length := by simp [Builtin.zeroCells]
    simp only [List.size_toArray, List.length_append, List.length_take, List.length_drop, Array.length_toList, hcs, hz]
    omega
  · exact Ky.of_grown (r := some g) ⟨rfl, rfl, rfl, by simp, fun k hk hne => setRow_other w g k _ (fun e => hne (by rw [e]))⟩ (fun q e => by injection e with e; exact e.symm) (fun q t e hc k => by injection e with e; subst e; exact tg.ne k (by rintro rfl; revert hc; decide) rfl)
theorem slice_to0 (g n c : Nat) (W : World) : (Instr.slice 22 (.slice (some ⟨g, 0, none⟩) n c) none (some (.int .i64 0)) none).run Tryz.prog W = .ok (.slice (some ⟨g, 0, none⟩) 0 c) W := by
  obtain ⟨i, hi, _, hz, _⟩ := info_parts info52
  have h1 : ¬ (c : Int) < 0 := by omega
  simp [Instr.slice, run_underlying Tryz.underlying22, Instr.sliceBounds, Instr.sliceBound, asIntOf, sizeOf, typeInfo, hi, hz, h1, Addr.add]
/-- The yard beneath a sorter. -/
theorem Sw.beneath {F : Nat → Prop} {w : World} {b y m q B s : Nat} {ks : List (Int × Bool)} {bu : Int × Bool} {Y : Yv} {op : Option Nat} {ids : List Nat} (h : Sw w b y m q B ks bu Y op ids F) (hs : ¬ F s) (hsy : s ≠ y) :
    ∃ F00, Py w b Y op F00 ∧ (∀ k, F00 k → F k) ∧ ∀ w' Y', Py w' b Y' op F00 → Ky (fun j => j = b ∨ j = s) w w' → Y'.there = Y.there → Sw w' b y m q B ks bu Y' op ids F := by
  obtain ⟨h1, h2, F0, vS, h3, h4, h5, ⟨g1, g2, F00, kk, g3, g4, g5, g6, g7⟩, h7, h8, h9⟩ := h
  refine ⟨F00, g5, fun k hk => h3 k (g3 k hk), fun w' Y' hP hK ht => ⟨h1, h2, F0, vS, h3, h4, h5, ⟨g1, g2, F00, kk, g3, g4, hP, g6.ky hK ?_ ?_, live_same g7 ht⟩, h7.ky hK ?_, own_ky h8 hK ?_, h9.ky hK⟩⟩
  · rintro (e | e)
    · exact g1 (g3 y (e ▸ g5.1))
    · exact hsy e.symm
  · rintro (e | e)
    · exact g4 (e ▸ g5.1)
    · exact hs (h3 s (e ▸ g2))
  · rintro (e | e)
    · exact h4 (g3 q (e ▸ g5.1))
    · exact hs (e ▸ h2)
  · rintro g e (k | k)
    · exact (h5 g e).2 (g3 g (k ▸ g5.1))
    · exact hs (k ▸ (h5 g e).1)
/-- What has been gathered of the first k rows. -/
structure Gth (rs : List (List Val)) (k : Nat) (hand : List (List Val)) (ks : List (Int × Bool)) (BU : Nat) (Y0 Y : Yv) (ids : List Nat) : Prop where
  rd : Y.rd = false
  rf : Y.rf = Y0.rf
  cd : Y.cd = Y0.cd
  out : Y.out = Y0.out
  held : Y.held = hand.length
  most : Y.most ≤ BU
  hm : Y.held ≤ Y.most
  lt : hand.length < BU
  runs : ∀ r ∈ Y.runs, r.length = BU ∧ r.Pairwise fun x y => ordG ks x y ≤ 0
  ids : ids = List.range Y.runs.length
  there : Y.there = List.replicate Y.runs.length true
  perm : (Y.runs.flatten ++ hand).Perm ((rs.take k).map cleanR)
  puts : Y.puts = Y.runs.flatten.length
theorem flat_all {l : List (List (List Val))} {n : Nat} (h : ∀ r ∈ l, r.length = n) : l.flatten.length = l.length * n := by
  induction l with
  | nil => simp
  | cons r l ih => rw [List.flatten_cons, List.length_append, h r (by simp), ih (fun x hx => h x (by simp [hx])), List.length_cons, Nat.add_mul]; omega
theorem Gth.count {rs hand : List (List Val)} {k BU : Nat} {ks : List (Int × Bool)} {Y0 Y : Yv} {ids : List Nat} (h : Gth rs k hand ks BU Y0 Y ids) (hk : k ≤ rs.length) : Y.runs.length * BU + hand.length = k := by
  have h1 := h.perm.length_eq
  rw [List.length_append, flat_all (fun r hr => (h.runs r hr).1), List.length_map, List.length_take] at h1
  omega
/-- One more row is held. -/
theorem Gth.more {rs hand : List (List Val)} {k BU : Nat} {ks : List (Int × Bool)} {Y0 Y Y1 : Yv} {ids : List Nat} {r : List Val} (h : Gth rs k hand ks BU Y0 Y ids) (hx : rs[k]? = some r) (hlt : hand.length + 1 < BU) (h1 : Y1 = Y.tick.hold 1) (hh : Y.hit = false) : Gth rs (k + 1) (hand ++ [cleanR r]) ks BU Y0 Y1 ids := by
  subst h1
  have e1 : (Y.tick.hold 1).held = Y.held + 1 := rfl
  have e2 : (Y.tick.hold 1).most = if Y.held + 1 > Y.most then Y.held + 1 else Y.most := rfl
  have b1 := h.held
  have b2 := h.most
  have b3 := h.hm
  refine ⟨hh, h.rf, h.cd, h.out, by rw [e1, b1, List.length_append]; simp, by rw [e2]; split <;> omega, by rw [e1, e2]; split <;> omega, by rw [List.length_append]; simpa using hlt, h.runs, h.ids, h.there, ?_, h.puts⟩
  rw [← List.append_assoc, List.take_add_one, hx, List.map_append]
  exact h.perm.append (List.Perm.refl _)
/-- All that is held is laid into a run. -/
theorem Gth.lay {rs hand hand' : List (List Val)} {k BU : Nat} {ks : List (Int × Bool)} {Y0 Y Y1 Y2 : Yv} {ids : List Nat} {r : List Val} (h : Gth rs k hand ks BU Y0 Y ids) (hx : rs[k]? = some r) (hlt : hand.length + 1 = BU) (h1 : Y1 = Y.tick.hold 1) (hp : hand'.Perm (hand ++ [cleanR r])) (hs : hand'.Pairwise fun x y => ordG ks x y ≤ 0) (hl : Laid hand' Y1 Y2) : Gth rs (k + 1) [] ks BU Y0 Y2 (ids ++ [Y.runs.length]) := by
  subst h1
  have e1 : (Y.tick.hold 1).held = Y.held + 1 := rfl
  have e2 : (Y.tick.hold 1).most = if Y.held + 1 > Y.most then Y.held + 1 else Y.most := rfl
  have b1 := h.held
  have b2 := h.most
  have b3 := h.hm
  have hlen : hand'.length = BU := by rw [hp.length_eq, List.length_append]; simpa using hlt
  have er : Y2.runs = Y.runs ++ [hand'] := hl.runs
  have hheld : Y2.held = 0 := by rw [hl.held, e1, b1, hlen]; omega
  refine ⟨hl.rd, hl.rf.trans h.rf, hl.cd.trans h.cd, hl.out.trans h.out, by rw [hheld]; rfl, by rw [hl.most, e2]; split <;> omega, by rw [hheld, hl.most, e2]; split <;> omega, by simp; omega, fun x hx => ?_, ?_, ?_, ?_, ?_⟩
  · rw [er] at hx
    rcases List.mem_append.1 hx with q | q
    · exact h.runs x q
    · simp at q; subst q; exact ⟨hlen, hs⟩
  · rw [er, List.length_append, h.ids]; simp [List.range_succ]
  · rw [hl.there, er, List.length_append]
    show Y.there ++ [true] = _
    rw [h.there]; simp [List.replicate_succ']
  · rw [er, List.flatten_append, List.take_add_one, hx, List.map_append, List.append_nil]
    simp only [List.flatten_cons, List.flatten_nil, List.append_nil]
    refine (List.Perm.append (List.Perm.refl _) hp).trans ?_
    rw [← List.append_assoc]
    exact h.perm.append (List.Perm.refl _)
  · rw [hl.puts, er, List.flatten_append, List.length_append]
    show Y.puts + _ = _
    rw [h.puts]; simp
end Go.Proofs.YtcbenpodohjbiaaGreat

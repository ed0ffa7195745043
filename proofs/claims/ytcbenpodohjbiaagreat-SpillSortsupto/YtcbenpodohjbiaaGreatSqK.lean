import Derived.Test.YtcbenpodohjbiaaGreatSpU
import Derived.Test.YtcbenpodohjbiaaGreatSqA
import Derived.Test.YtcbenpodohjbiaaGreatSqE
set_option linter.unusedSimpArgs false
set_option linter.unusedVariables false
set_option maxRecDepth 100000
namespace Go.Proofs.YtcbenpodohjbiaaGreat
open Go.RowKit Go.Sort

/-- clear(rows). -/
theorem clear_lst {w : World} {g n c : Nat} {rs : List (List Val)} (h : Lst w (.slice (some ⟨g, 0, none⟩) n c) rs) (hn : n = rs.length) (h0 : 0 < n) :
    ∃ w', (∀ ty : TypeId, (Builtin.clear_ #[22] ty #[.slice (some ⟨g, 0, none⟩) n c]).run Tryz.prog w = .ok (.tuple #[]) w') ∧ Lst w' (.slice (some ⟨g, 0, none⟩) 0 c) [] ∧ Ky (fun k => k = g) w w' := by
  obtain ⟨us, hul, hown, hrw⟩ := h
  subst hn
  have tg : Tg 70 w g := own_tg hown rfl
  rcases hown.2 with ⟨e, _⟩ | ⟨g', cap', cur, e, hb, hh, hnc, hcm, hcs, htake⟩
  · cases e
  injection e with e1 e2 e3
  injection e1 with e1
  injection e1 with e1
  subst e1 e3
  have hst := run_storeCells_at (P := Tryz.prog) g 0 70 (Builtin.zeroCells #[.slice none 0 0] rs.length).toList 0 cur w hh (by simp [Builtin.zeroCells, hcs]; omega) (by
    intro v hv
    simp only [Builtin.zeroCells, Array.toList_map, List.mem_map] at hv
    obtain ⟨q, _, rfl⟩ := hv
    have : q % 1 = 0 := Nat.mod_one q
    simp [this]; rfl)
  refine ⟨w.setRow g (cur.toList.take (0 + 0) ++ (Builtin.zeroCells #[.slice none 0 0] rs.length).toList ++ cur.toList.drop (0 + 0 + (Builtin.zeroCells #[.slice none 0 0] rs.length).toList.length)).toArray, ?_, ⟨[], rfl, ⟨rfl, .inr ⟨g, c, _, rfl, Nat.zero_le _, setRow_heap w g cur _ 70 _ hh, Nat.zero_le _, hcm, ?_, by simp⟩⟩, fun i u r hu => by simp at hu⟩, ?_⟩
  · intro ty
    obtain ⟨q, hq⟩ : ∃ q, rs.length = q + 1 := ⟨rs.length - 1, by omega⟩
    rw [hq] at hst ⊢
    have hv : ∀ w, (zeroValue 70).run Tryz.prog w = .ok (.slice none 0 0) w := fun w => by kernel_rfl
    simp only [Nat.add_zero] at hst
    simp [Builtin.clear_, run_underlying Tryz.underlying22, hv, hst, Value.cells]
  · have hz : (Builtin.zeroCells #[Value.slice none 0 0] rs.length).size = rs.length := by simp [Builtin.zeroCells]
    simp only [List.size_toArray, List.length_append, List.length_take, List.length_drop, Array.length_toList, hcs, hz]
    omega
  · exact Ky.of_grown (r := some g) ⟨rfl, rfl, rfl, by simp, fun k hk hne => setRow_other w g k _ (fun e => hne (by rw [e]))⟩ (fun q e => by injection e with e; exact e.symm) (fun q t e hc k => by injection e with e; subst e; exact tg.ne k (by rintro rfl; revert hc; decide) rfl)
theorem slice_to0 (g n c : Nat) (W : World) : (Instr.slice 22 (.slice (some ⟨g, 0, none⟩) n c) none (some (.int .i64 0)) none).run Tryz.prog W = .ok (.slice (some ⟨g, 0, none⟩) 0 c) W := by
  obtain ⟨i, hi, _, hz, _⟩ := info_parts info52
  have h1 : ¬ (c : Int) < 0 := by omega
  simp [Instr.slice, run_underlying Tryz.underlying22, Instr.sliceBounds, Instr.sliceBound, asIntOf, sizeOf, typeInfo, hi, hz, h1, Addr.add]
/-- The yard beneath a sorter. -/
theorem Sw.beneath {F : Nat → Prop} {w : World} {b y m q B s : Nat} {ks : List (Int × Bool)} {bu : Int} {Y : Yv} {op : Option Nat} {ids : List Nat} (h : Sw w b y m q B ks bu Y op ids F) (hs : ¬ F s) (hsy : s ≠ y) :
    ∃ F00, Py w b Y op F00 ∧ (∀ k, F00 k → F k) ∧ ∀ w' Y', Py w' b Y' op F00 → Ky (fun j => j = b ∨ j = s) w w' → Y'.there = Y.there → Sw w' b y m q B ks bu Y' op ids F := by
  obtain ⟨h1, h2, F0, vS, h3, h4, h5, ⟨g1, g2, F00, kk, g3, g4, g5, g6, g7⟩, h7, h8, h9⟩ := h
  refine ⟨F00, g5, fun k hk => h3 k (g3 k hk), fun w' Y' hP hK ht => ⟨h1, h2, F0, vS, h3, h4, h5, ⟨g1, g2, F00, kk, g3, g4, hP, g6.ky hK ?_ ?_, live_same g7 ht⟩, h7.ky hK ?_, own_ky h8 hK ?_, h9.ky hK⟩⟩
  · rintro (e | e)
    · exact g1 (g3 y (e ▸ g5.1))
    · exact hsy e.symm
  · rintro (e | e)
    · exact g4 (e ▸ g5.1)
    · exact hs (h3 s (e ▸ g2))
  · rintro (e | e)
    · exact h4 (g3 q (e ▸ g5.1))
    · exact hs (e ▸ h2)
  · rintro g e (k | k)
    · exact (h5 g e).2 (g3 g (k ▸ g5.1))
    · exact hs (k ▸ (h5 g e).1)
/-- What has been gathered of the first k rows. -/
structure Gth (rs : List (List Val)) (k : Nat) (hand : List (List Val)) (ks : List (Int × Bool)) (BU : Nat) (Y0 Y : Yv) (ids : List Nat) : Prop where
  rd : Y.rd = false
  rf : Y.rf = Y0.rf
  cd : Y.cd = Y0.cd
  out : Y.out = Y0.out
  held : Y.held = hand.length
  most : Y.most ≤ BU
  hm : Y.held ≤ Y.most
  lt : hand.length < BU
  runs : ∀ r ∈ Y.runs, r.length = BU ∧ r.Pairwise fun x y => ordG ks x y ≤ 0
  ids : ids = List.range Y.runs.length
  there : Y.there = List.replicate Y.runs.length true
  perm : (Y.runs.flatten ++ hand).Perm ((rs.take k).map cleanR)
  puts : Y.puts = Y.runs.flatten.length
theorem flat_all {l : List (List (List Val))} {n : Nat} (h : ∀ r ∈ l, r.length = n) : l.flatten.length = l.length * n := by
  induction l with
  | nil => simp
  | cons r l ih => rw [List.flatten_cons, List.length_append, h r (by simp), ih (fun x hx => h x (by simp [hx])), List.length_cons, Nat.add_mul]; omega
theorem Gth.count {rs hand : List (List Val)} {k BU : Nat} {ks : List (Int × Bool)} {Y0 Y : Yv} {ids : List Nat} (h : Gth rs k hand ks BU Y0 Y ids) (hk : k ≤ rs.length) : Y.runs.length * BU + hand.length = k := by
  have h1 := h.perm.length_eq
  rw [List.length_append, flat_all (fun r hr => (h.runs r hr).1), List.length_map, List.length_take] at h1
  omega
/-- One more row is held. -/
theorem Gth.more {rs hand : List (List Val)} {k BU : Nat} {ks : List (Int × Bool)} {Y0 Y Y1 : Yv} {ids : List Nat} {r : List Val} (h : Gth rs k hand ks BU Y0 Y ids) (hx : rs[k]? = some r) (hlt : hand.length + 1 < BU) (h1 : Y1 = Y.tick.hold 1) (hh : Y.hit = false) : Gth rs (k + 1) (hand ++ [cleanR r]) ks BU Y0 Y1 ids := by
  subst h1
  have e1 : (Y.tick.hold 1).held = Y.held + 1 := rfl
  have e2 : (Y.tick.hold 1).most = if Y.held + 1 > Y.most then Y.held + 1 else Y.most := rfl
  have b1 := h.held
  have b2 := h.most
  have b3 := h.hm
  refine ⟨hh, h.rf, h.cd, h.out, by rw [e1, b1, List.length_append]; simp, by rw [e2]; split <;> omega, by rw [e1, e2]; split <;> omega, by rw [List.length_append]; simpa using hlt, h.runs, h.ids, h.there, ?_, h.puts⟩
  rw [← List.append_assoc, List.take_add_one, hx, List.map_append]
  exact h.perm.append (List.Perm.refl _)
/-- All that is held is laid into a run. -/
theorem Gth.lay {rs hand hand' : List (List Val)} {k BU : Nat} {ks : List (Int × Bool)} {Y0 Y Y1 Y2 : Yv} {ids : List Nat} {r : List Val} (h : Gth rs k hand ks BU Y0 Y ids) (hx : rs[k]? = some r) (hlt : hand.length + 1 = BU) (h1 : Y1 = Y.tick.hold 1) (hp : hand'.Perm (hand ++ [cleanR r])) (hs : hand'.Pairwise fun x y => ordG ks x y ≤ 0) (hl : Laid hand' Y1 Y2) : Gth rs (k + 1) [] ks BU Y0 Y2 (ids ++ [Y.runs.length]) := by
  subst h1
  have e1 : (Y.tick.hold 1).held = Y.held + 1 := rfl
  have e2 : (Y.tick.hold 1).most = if Y.held + 1 > Y.most then Y.held + 1 else Y.most := rfl
  have b1 := h.held
  have b2 := h.most
  have b3 := h.hm
  have hlen : hand'.length = BU := by rw [hp.length_eq, List.length_append]; simpa using hlt
  have er : Y2.runs = Y.runs ++ [hand'] := hl.runs
  have hheld : Y2.held = 0 := by rw [hl.held, e1, b1, hlen]; omega
  refine ⟨hl.rd, hl.rf.trans h.rf, hl.cd.trans h.cd, hl.out.trans h.out, by rw [hheld]; rfl, by rw [hl.most, e2]; split <;> omega, by rw [hheld, hl.most, e2]; split <;> omega, by simp; omega, fun x hx => ?_, ?_, ?_, ?_, ?_⟩
  · rw [er] at hx
    rcases List.mem_append.1 hx with q | q
    · exact h.runs x q
    · simp at q; subst q; exact ⟨hlen, hs⟩
  · rw [er, List.length_append, h.ids]; simp [List.range_succ]
  · rw [hl.there, er, List.length_append]
    show Y.there ++ [true] = _
    rw [h.there]; simp [List.replicate_succ']
  · rw [er, List.flatten_append, List.take_add_one, hx, List.map_append, List.append_nil]
    simp only [List.flatten_cons, List.flatten_nil, List.append_nil]
    refine (List.Perm.append (List.Perm.refl _) hp).trans ?_
    rw [← List.append_assoc]
    exact h.perm.append (List.Perm.refl _)
  · rw [hl.puts, er, List.flatten_append, List.length_append]
    show Y.puts + _ = _
    rw [h.puts]; simp
end Go.Proofs.YtcbenpodohjbiaaGreat
set_option linter.unusedSimpArgs false
set_option linter.unusedVariables false
namespace Go.Proofs.YtcbenpodohjbiaaGreat

/-! What merge keeps, pure. -/
theorem srt_eq {ks : List (Int × Bool)} {A B : List (List Val)} (hA : A.Pairwise fun x y => ordG ks x y ≤ 0) (hB : B.Pairwise fun x y => ordG ks x y ≤ 0) (hp : A.Perm B) (hc : ∀ x ∈ A, cleanR x = x) : A = B :=
  List.Perm.eq_of_pairwise (le := fun x y => ordG ks x y ≤ 0) (fun a b ha hb h3 h4 => by
    have := ordG_anti ks a b
    have := ordG_eq (ks := ks) (x := a) (y := b) (by omega)
    rw [hc a ha, hc b (hp.mem_iff.2 hb)] at this
    exact this) hA hB hp
/-- The rows that are still to come. -/
def restR (R : List (List (List Val))) (L : List Hd) : List (List Val) := (L.map fun h => h.r :: R.getD h.i []).flatten
theorem restR_cons (R : List (List (List Val))) (x : Hd) (t : List Hd) : restR R (x :: t) = x.r :: (R.getD x.i [] ++ restR R t) := by
  unfold restR
  rw [List.map_cons, List.flatten_cons, List.cons_append]
theorem restR_perm {R : List (List (List Val))} {L L' : List Hd} (h : L.Perm L') : (restR R L).Perm (restR R L') := (h.map _).flatten
theorem getD_set_ne {α : Type} {l : List α} {i j : Nat} {v d : α} (h : i ≠ j) : (l.set i v).getD j d = l.getD j d := by
  rw [List.getD_eq_getElem?_getD, List.getD_eq_getElem?_getD, List.getElem?_set, if_neg h]
theorem restR_set {R : List (List (List Val))} {i : Nat} {v : List (List Val)} : ∀ {t : List Hd}, i ∉ t.map Hd.i → restR (R.set i v) t = restR R t
  | [], _ => rfl
  | x :: t, h => by
    rw [List.map_cons, List.mem_cons] at h
    rw [restR_cons, restR_cons, getD_set_ne (by intro e; exact h (.inl e)), restR_set (fun q => h (.inr q))]
/-- What merge keeps of its heads. -/
structure Mk (ks : List (Int × Bool)) (R : List (List (List Val))) (L : List Hd) : Prop where
  once : (L.map Hd.i).Nodup
  lt : ∀ h ∈ L, h.i < R.length
  sort : ∀ h ∈ L, (h.r :: R.getD h.i []).Pairwise fun x y => ordG ks x y ≤ 0
  clean : ∀ h ∈ L, ∀ x ∈ R.getD h.i [], cleanR x = x
theorem Mk.perm {ks : List (Int × Bool)} {R : List (List (List Val))} {L L' : List Hd} (h : Mk ks R L) (hp : L'.Perm L) : Mk ks R L' :=
  ⟨(hp.map Hd.i).nodup_iff.2 h.once, fun x hx => h.lt x (hp.mem_iff.1 hx), fun x hx => h.sort x (hp.mem_iff.1 hx), fun x hx => h.clean x (hp.mem_iff.1 hx)⟩
/-- The first head is not behind anything that is to come. -/
theorem Mk.min {ks : List (Int × Bool)} {R : List (List (List Val))} {L : List Hd} (h : Mk ks R L) (hp : Hp ks 0 L) : ∀ x ∈ restR R L, ordG ks (hAt L 0).r x ≤ 0 := fun x hx => by
  unfold restR at hx
  obtain ⟨l, hl, hxl⟩ := List.mem_flatten.1 hx
  obtain ⟨q, hq, rfl⟩ := List.mem_map.1 hl
  obtain ⟨j, hj⟩ := List.getElem?_of_mem hq
  have hjl : j < L.length := (List.getElem?_eq_some_iff.1 hj).1
  have e : hAt L j = q := by unfold hAt; rw [List.getD_eq_getElem?_getD, hj]; rfl
  have h1 := hp.min j hjl
  rw [e] at h1
  rcases List.mem_cons.1 hxl with r | r
  · rw [r]; exact h1
  · exact ordG_le ks _ _ _ h1 (List.rel_of_pairwise_cons (h.sort q hq) r)
/-- A step where the run has a row. -/
theorem Mk.row {ks : List (Int × Bool)} {R : List (List (List Val))} {L L' : List Hd} {u : Value} {r : List Val} {rs : List (List Val)} (h : Mk ks R L) (hL : 0 < L.length) (hr : R[(hAt L 0).i]? = some (r :: rs)) (hp : L'.Perm (⟨u, cleanR r, (hAt L 0).i⟩ :: L.tail)) : Mk ks (R.set (hAt L 0).i rs) L' ∧ (restR R L).Perm ((hAt L 0).r :: restR (R.set (hAt L 0).i rs) L') ∧ L'.length = L.length := by
  match L, hL with
  | x :: t, _ =>
    change R[x.i]? = some (r :: rs) at hr
    change L'.Perm (⟨u, cleanR r, x.i⟩ :: t) at hp
    show Mk ks (R.set x.i rs) L' ∧ (restR R (x :: t)).Perm (x.r :: restR (R.set x.i rs) L') ∧ L'.length = (x :: t).length
    have hxi : x.i < R.length := (List.getElem?_eq_some_iff.1 hr).1
    have hg : R.getD x.i [] = r :: rs := by rw [List.getD_eq_getElem?_getD, hr]; rfl
    have hg2 : (R.set x.i rs).getD x.i [] = rs := by rw [List.getD_eq_getElem?_getD, List.getElem?_set, if_pos rfl, if_pos hxi]; rfl
    have hcl : cleanR r = r := h.clean x (by simp) r (by rw [hg]; simp)
    have hno := h.once
    rw [List.map_cons, List.nodup_cons] at hno
    have hM : Mk ks (R.set x.i rs) (⟨u, cleanR r, x.i⟩ :: t) := by
      refine ⟨by rw [List.map_cons, List.nodup_cons]; exact hno, fun y hy => ?_, fun y hy => ?_, fun y hy z hz => ?_⟩
      · rw [List.length_set]
        rcases List.mem_cons.1 hy with q | q
        · subst q; exact hxi
        · exact h.lt y (by simp [q])
      · rcases List.mem_cons.1 hy with q | q
        · subst q
          show (cleanR r :: (R.set x.i rs).getD x.i []).Pairwise _
          rw [hg2, hcl]
          have := h.sort x (by simp)
          rw [hg] at this
          exact (List.pairwise_cons.1 this).2
        · rw [getD_set_ne (by intro e; exact hno.1 (by rw [e]; exact List.mem_map.2 ⟨y, q, rfl⟩))]
          exact h.sort y (by simp [q])
      · rcases List.mem_cons.1 hy with q | q
        · subst q
          change z ∈ (R.set x.i rs).getD x.i [] at hz
          rw [hg2] at hz
          exact h.clean x (by simp) z (by rw [hg]; simp [hz])
        · rw [getD_set_ne (by intro e; exact hno.1 (by rw [e]; exact List.mem_map.2 ⟨y, q, rfl⟩))] at hz
          exact h.clean y (by simp [q]) z hz
    refine ⟨hM.perm hp, ?_, by rw [hp.length_eq]; rfl⟩
    rw [restR_cons, hg]
    refine List.Perm.cons _ ?_
    refine List.Perm.trans ?_ (restR_perm hp).symm
    rw [restR_cons, hg2, restR_set hno.1, hcl]
    exact List.Perm.refl _
/-- A step where the run has no more rows. -/
theorem Mk.end_ {ks : List (Int × Bool)} {R : List (List (List Val))} {L L' : List Hd} (h : Mk ks R L) (hL : 0 < L.length) (hr : R[(hAt L 0).i]? = some []) (hp : L'.Perm L.tail) : Mk ks (R.set (hAt L 0).i []) L' ∧ (restR R L).Perm ((hAt L 0).r :: restR (R.set (hAt L 0).i []) L') ∧ L'.length + 1 = L.length := by
  match L, hL with
  | x :: t, _ =>
    change R[x.i]? = some [] at hr
    change L'.Perm t at hp
    show Mk ks (R.set x.i []) L' ∧ (restR R (x :: t)).Perm (x.r :: restR (R.set x.i []) L') ∧ L'.length + 1 = (x :: t).length
    have hg : R.getD x.i [] = [] := by rw [List.getD_eq_getElem?_getD, hr]; rfl
    have hno := h.once
    rw [List.map_cons, List.nodup_cons] at hno
    have hM : Mk ks (R.set x.i []) t := by
      refine ⟨hno.2, fun y hy => ?_, fun y hy => ?_, fun y hy z hz => ?_⟩
      · rw [List.length_set]; exact h.lt y (by simp [hy])
      · rw [getD_set_ne (by intro e; exact hno.1 (by rw [e]; exact List.mem_map.2 ⟨y, hy, rfl⟩))]
        exact h.sort y (by simp [hy])
      · rw [getD_set_ne (by intro e; exact hno.1 (by rw [e]; exact List.mem_map.2 ⟨y, hy, rfl⟩))] at hz
        exact h.clean y (by simp [hy]) z hz
    refine ⟨hM.perm hp, ?_, by rw [hp.length_eq]; rfl⟩
    rw [restR_cons, hg, List.nil_append]
    refine List.Perm.cons _ ?_
    refine List.Perm.trans ?_ (restR_perm hp).symm
    rw [restR_set hno.1]
end Go.Proofs.YtcbenpodohjbiaaGreat
set_option linter.unusedSimpArgs false
set_option linter.unusedVariables false
namespace Go.Proofs.YtcbenpodohjbiaaGreat

/-- The rows of these runs. -/
def rowsOf (R : List (List (List Val))) (ids : List Nat) : List (List Val) := ids.flatMap fun i => R.getD i []
theorem getD_of {R : List (List (List Val))} {i : Nat} {x : List (List Val)} (h : R[i]? = some x) : R.getD i [] = x := by rw [List.getD_eq_getElem?_getD, h]; rfl
theorem Opn.whole {ids : List Nat} {L : List Hd} {Y Y' : Yv} (h : Opn ids L Y Y') (hc : ∀ i ∈ ids, ∀ x ∈ Y.runs.getD i [], cleanR x = x) : ∀ z ∈ L, z.r :: Y'.runs.getD z.i [] = Y.runs.getD z.i [] := fun z hz => by
  obtain ⟨x, rs, p1, p2, p3⟩ := h.each z hz
  have hi : z.i ∈ ids := by rw [← h.hids]; exact List.mem_map.2 ⟨z, hz, rfl⟩
  have e1 := getD_of p1
  have hx := hc z.i hi x (by rw [e1]; simp)
  rw [getD_of p3, e1, p2, hx]
theorem Opn.rest {ids : List Nat} {L : List Hd} {Y Y' : Yv} (h : Opn ids L Y Y') (hc : ∀ i ∈ ids, ∀ x ∈ Y.runs.getD i [], cleanR x = x) : restR Y'.runs L = rowsOf Y.runs ids := by
  have hw := h.whole hc
  have hi := h.hids
  unfold restR rowsOf
  rw [← hi, List.flatMap_def, List.map_map]
  congr 1
  exact List.map_congr_left hw
theorem Opn.keeps {ks : List (Int × Bool)} {ids : List Nat} {L : List Hd} {Y Y' : Yv} (h : Opn ids L Y Y') (hnd : ids.Nodup) (hs : ∀ i ∈ ids, (Y.runs.getD i []).Pairwise fun x y => ordG ks x y ≤ 0) (hc : ∀ i ∈ ids, ∀ x ∈ Y.runs.getD i [], cleanR x = x) : Mk ks Y'.runs L := by
  have hm : ∀ z ∈ L, z.i ∈ ids := fun z hz => by rw [← h.hids]; exact List.mem_map.2 ⟨z, hz, rfl⟩
  refine ⟨by rw [h.hids]; exact hnd, fun z hz => ?_, fun z hz => ?_, fun z hz x hx => ?_⟩
  · obtain ⟨x, rs, p1, p2, p3⟩ := h.each z hz
    exact (List.getElem?_eq_some_iff.1 p3).1
  · rw [h.whole hc z hz]
    exact hs z.i (hm z hz)
  · refine hc z.i (hm z hz) x ?_
    rw [← h.whole hc z hz]
    exact List.mem_cons_of_mem _ hx
theorem Mk.cong {ks : List (Int × Bool)} {R R' : List (List (List Val))} {L : List Hd} (h : Mk ks R L) (hl : R'.length = R.length) (he : ∀ z ∈ L, R'.getD z.i [] = R.getD z.i []) : Mk ks R' L :=
  ⟨h.once, fun z hz => by rw [hl]; exact h.lt z hz, fun z hz => by rw [he z hz]; exact h.sort z hz, fun z hz x hx => h.clean z hz x (by rw [← he z hz]; exact hx)⟩
theorem restR_cong {R R' : List (List (List Val))} {L : List Hd} (he : ∀ z ∈ L, R'.getD z.i [] = R.getD z.i []) : restR R' L = restR R L := by
  unfold restR
  congr 1
  exact List.map_congr_left fun z hz => by rw [he z hz]
/-- What merge has done: O has gone into the sink, hand is on its way. -/
structure MI (ks : List (Int × Bool)) (ids : List Nat) (S : Option Nat) (BU : Nat) (Y Yk : Yv) (L : List Hd) (O hand : List (List Val)) : Prop where
  rd : Yk.rd = false
  rf : Yk.rf = Y.rf
  cd : Yk.cd = Y.cd
  held : Yk.held = (L.length : Int) + hand.length
  most : Yk.most ≤ BU
  hm : Yk.held ≤ Yk.most
  len : Yk.runs.length = Y.runs.length
  ll : L.length ≤ ids.length
  sub : ∀ z ∈ L, z.i ∈ ids
  thr : ∀ z ∈ L, Yk.there[z.i]? = some true
  oth : ∀ j, j ∉ ids → Yk.there[j]? = Y.there[j]?
  off : ∀ j ∈ ids, j ∉ L.map Hd.i → Yk.there[j]? = some false
  mks : Mk ks Yk.runs L
  heap : Hp ks 0 L
  perm : (O ++ hand ++ restR Yk.runs L).Perm (rowsOf Y.runs ids)
  srt : (O ++ hand).Pairwise fun x y => ordG ks x y ≤ 0
  crs : ∀ x ∈ O ++ hand, ∀ z ∈ restR Yk.runs L, ordG ks x z ≤ 0
  keep : ∀ j, j ∉ ids → S ≠ some j → Yk.runs[j]? = Y.runs[j]?
  o : S = none → Yk.out = Y.out ++ O ∧ Yk.puts = Y.puts
  r : ∀ i, S = some i → Yk.out = Y.out ∧ Yk.runs[i]? = some O ∧ Yk.puts = Y.puts + O.length
theorem MI.start {ks : List (Int × Bool)} {ids : List Nat} {S : Option Nat} {BU : Nat} {Y Yk : Yv} {L L0 : List Hd} (h : Opn ids L0 Y Yk) (hL : L.Perm L0) (hp : Hp ks 0 L) (hnd : ids.Nodup) (hb : ids.length + 1 ≤ BU) (h0 : Y.held = 0) (hm : Y.most ≤ BU) (hm0 : 0 ≤ Y.most) (hth : ∀ i ∈ ids, Y.there[i]? = some true) (hs : ∀ i ∈ ids, (Y.runs.getD i []).Pairwise fun x y => ordG ks x y ≤ 0) (hc : ∀ i ∈ ids, ∀ x ∈ Y.runs.getD i [], cleanR x = x) (hS : ∀ i, S = some i → i ∉ ids ∧ Y.runs[i]? = some []) : MI ks ids S BU Y Yk L [] [] := by
  have hll : L.length = ids.length := by rw [hL.length_eq, ← h.hids, List.length_map]
  have hmi : (L.map Hd.i).Perm ids := by rw [← h.hids]; exact hL.map _
  have hmo := h.most
  rw [h0] at hmo
  have hhe := h.held
  rw [h0] at hhe
  refine ⟨h.rd, h.rf, h.cd, by rw [hhe, hll]; simp, ?_, ?_, h.len, by omega, fun z hz => hmi.mem_iff.1 (List.mem_map.2 ⟨z, hz, rfl⟩), fun z hz => ?_, fun j _ => by rw [h.there], fun j hj hn => absurd (hmi.mem_iff.2 hj) hn, (h.keeps hnd hs hc).perm hL, hp, ?_, by simp, by simp, fun j hj _ => h.oth j hj, fun _ => ⟨by rw [h.out]; simp, h.puts⟩, fun i hi => ⟨h.out, ?_, by rw [h.puts]; simp⟩⟩
  · rw [hmo]; split <;> omega
  · rw [hmo, hhe]
    split
    · omega
    · rename_i q
      by_cases e : ids = []
      · subst e; simpa using hm0
      · have : ¬ Y.most < 0 + (ids.length : Int) := fun z => q ⟨z, e⟩
        omega
  · rw [h.there]; exact hth z.i (hmi.mem_iff.1 (List.mem_map.2 ⟨z, hz, rfl⟩))
  · rw [List.append_nil, List.nil_append, ← h.rest hc]
    exact restR_perm hL
  · rw [h.oth i (hS i hi).1]; exact (hS i hi).2
theorem head_tail {L : List Hd} (h : 0 < L.length) : L = hAt L 0 :: L.tail := by
  cases L with
  | nil => simp at h
  | cons x t => rfl
theorem MI.zero {ks : List (Int × Bool)} {ids : List Nat} {S : Option Nat} {BU : Nat} {Y Yk : Yv} {L : List Hd} {O hand : List (List Val)} (h : MI ks ids S BU Y Yk L O hand) (hL : 0 < L.length) : (hAt L 0).i ∈ ids ∧ Yk.there[(hAt L 0).i]? = some true ∧ (hAt L 0).i < Yk.runs.length :=
  ⟨h.sub _ (hAt_mem hL), h.thr _ (hAt_mem hL), h.mks.lt _ (hAt_mem hL)⟩
theorem MI.step {ks : List (Int × Bool)} {ids : List Nat} {S : Option Nat} {BU : Nat} {Y Yk : Yv} {L L' : List Hd} {O : List (List Val)} {rs : List (List Val)} (h : MI ks ids S BU Y Yk L O []) (hL : 0 < L.length)
    (hmk : Mk ks (Yk.runs.set (hAt L 0).i rs) L') (hpm : (restR Yk.runs L).Perm ((hAt L 0).r :: restR (Yk.runs.set (hAt L 0).i rs) L')) :
    (O ++ [(hAt L 0).r] ++ restR (Yk.runs.set (hAt L 0).i rs) L').Perm (rowsOf Y.runs ids) ∧ (O ++ [(hAt L 0).r]).Pairwise (fun x y => ordG ks x y ≤ 0) ∧ (∀ x ∈ O ++ [(hAt L 0).r], ∀ z ∈ restR (Yk.runs.set (hAt L 0).i rs) L', ordG ks x z ≤ 0) := by
  have hx0 : (hAt L 0).r ∈ restR Yk.runs L := hpm.mem_iff.2 (by simp)
  have hz : ∀ z ∈ restR (Yk.runs.set (hAt L 0).i rs) L', z ∈ restR Yk.runs L := fun z hz => hpm.mem_iff.2 (by simp [hz])
  have hc := h.crs
  have hs := h.srt
  have hp := h.perm
  simp only [List.append_nil] at hc hs hp
  refine ⟨?_, ?_, fun x hx z hz' => ?_⟩
  · refine List.Perm.trans ?_ hp
    rw [List.append_assoc]
    exact (List.Perm.append (List.Perm.refl _) hpm.symm)
  · rw [List.pairwise_append]
    refine ⟨hs, by simp, fun x hx y hy => ?_⟩
    simp at hy
    subst hy
    exact hc x hx _ hx0
  · rcases List.mem_append.1 hx with q | q
    · exact hc x q z (hz z hz')
    · simp at q
      subst q
      exact h.mks.min h.heap z (hz z hz')
theorem MI.row {ks : List (Int × Bool)} {ids : List Nat} {S : Option Nat} {BU : Nat} {Y Yk : Yv} {L L' : List Hd} {O : List (List Val)} {u : Value} {r : List Val} {rs : List (List Val)} (h : MI ks ids S BU Y Yk L O []) (hL : 0 < L.length) (hb : ids.length + 1 ≤ BU) (hr : Yk.runs[(hAt L 0).i]? = some (r :: rs)) (hp : L'.Perm (⟨u, cleanR r, (hAt L 0).i⟩ :: L.tail)) (hh : Hp ks 0 L') (hit : Yk.hit = false) (hS : ∀ i, S = some i → i ∉ ids) : MI ks ids S BU Y ((Yk.tick.read (hAt L 0).i rs).hold 1) L' O [(hAt L 0).r] := by
  obtain ⟨m1, m2, m3⟩ := h.mks.row hL hr hp
  obtain ⟨p1, p2, p3⟩ := h.step hL m1 m2
  obtain ⟨z1, z2, z3⟩ := h.zero hL
  have hhd := h.held
  have hmo := h.most
  have hhm := h.hm
  have hll := h.ll
  have eL := head_tail hL
  have hmap : (L'.map Hd.i).Perm (L.map Hd.i) := by
    have := hp.map Hd.i
    rw [List.map_cons] at this
    rw [eL, List.map_cons]
    exact this
  have hsub : ∀ z ∈ L', z.i ∈ ids ∧ Yk.there[z.i]? = some true := fun z hz => by
    rcases List.mem_cons.1 (hp.mem_iff.1 hz) with q | q
    · subst q; exact ⟨z1, z2⟩
    · have : z ∈ L := by rw [eL]; exact List.mem_cons_of_mem _ q
      exact ⟨h.sub z this, h.thr z this⟩
  have e1 : ((Yk.tick.read (hAt L 0).i rs).hold 1).held = Yk.held + 1 := rfl
  have e2 : ((Yk.tick.read (hAt L 0).i rs).hold 1).most = if Yk.held + 1 > Yk.most then Yk.held + 1 else Yk.most := rfl
  have hne : ∀ j, j ∉ ids → (hAt L 0).i ≠ j := fun j hj e => hj (e ▸ z1)
  refine ⟨hit, h.rf, h.cd, by rw [e1, hhd, m3]; simp, ?_, ?_, ?_, by omega, fun z hz => (hsub z hz).1, fun z hz => (hsub z hz).2, h.oth, fun j hj hn => h.off j hj (fun q => hn (hmap.mem_iff.2 q)), m1, hh, p1, p2, p3, fun j hj hs => ?_, h.o, fun i hi => ⟨(h.r i hi).1, ?_, (h.r i hi).2.2⟩⟩
  · rw [e2]; simp at hhd; split <;> omega
  · rw [e1, e2]; split <;> omega
  · show (Yk.runs.set (hAt L 0).i rs).length = _; rw [List.length_set]; exact h.len
  · show (Yk.runs.set (hAt L 0).i rs)[j]? = _
    rw [List.getElem?_set, if_neg (hne j hj)]
    exact h.keep j hj hs
  · show (Yk.runs.set (hAt L 0).i rs)[i]? = _
    rw [List.getElem?_set, if_neg (hne i (hS i hi))]
    exact (h.r i hi).2.1
theorem MI.end_ {ks : List (Int × Bool)} {ids : List Nat} {S : Option Nat} {BU : Nat} {Y Yk : Yv} {L L' : List Hd} {O : List (List Val)} (h : MI ks ids S BU Y Yk L O []) (hL : 0 < L.length) (hr : Yk.runs[(hAt L 0).i]? = some []) (hp : L'.Perm L.tail) (hh : Hp ks 0 L') (hit : Yk.hit = false) (hS : ∀ i, S = some i → i ∉ ids) : MI ks ids S BU Y (Yk.tick.drop (hAt L 0).i) L' O [(hAt L 0).r] := by
  obtain ⟨m1, m2, m3⟩ := h.mks.end_ hL hr hp
  obtain ⟨p1, p2, p3⟩ := h.step hL m1 m2
  obtain ⟨z1, z2, z3⟩ := h.zero hL
  have hhd := h.held
  have hll := h.ll
  have eL := head_tail hL
  have hnd := h.mks.once
  rw [eL, List.map_cons, List.nodup_cons] at hnd
  have hmap : (L'.map Hd.i).Perm (L.tail.map Hd.i) := hp.map Hd.i
  have hne : ∀ j, j ∉ ids → (hAt L 0).i ≠ j := fun j hj e => hj (e ▸ z1)
  have htl : (hAt L 0).i < Yk.there.length := (List.getElem?_eq_some_iff.1 z2).1
  have e1 : (Yk.tick.drop (hAt L 0).i).there = Yk.there.set (hAt L 0).i false := rfl
  have hsub : ∀ z ∈ L', z.i ∈ ids ∧ (Yk.tick.drop (hAt L 0).i).there[z.i]? = some true := fun z hz => by
    have q := hp.mem_iff.1 hz
    have hzL : z ∈ L := by rw [eL]; exact List.mem_cons_of_mem _ q
    refine ⟨h.sub z hzL, ?_⟩
    rw [e1, List.getElem?_set, if_neg (fun e => hnd.1 (by rw [e]; exact List.mem_map.2 ⟨z, q, rfl⟩))]
    exact h.thr z hzL
  refine ⟨hit, h.rf, h.cd, ?_, h.most, h.hm, ?_, by omega, fun z hz => (hsub z hz).1, fun z hz => (hsub z hz).2, fun j hj => ?_, fun j hj hn => ?_, m1, hh, p1, p2, p3, fun j hj hs => ?_, h.o, fun i hi => ⟨(h.r i hi).1, ?_, (h.r i hi).2.2⟩⟩
  · show Yk.held = _
    rw [hhd]; simp; omega
  · show (Yk.runs.set (hAt L 0).i []).length = _; rw [List.length_set]; exact h.len
  · rw [e1, List.getElem?_set, if_neg (hne j hj)]
    exact h.oth j hj
  · rw [e1, List.getElem?_set]
    by_cases e : (hAt L 0).i = j
    · rw [if_pos e, if_pos htl]
    · rw [if_neg e]
      refine h.off j hj (fun q => ?_)
      rw [eL, List.map_cons] at q
      rcases List.mem_cons.1 q with q | q
      · exact e q.symm
      · exact hn (hmap.mem_iff.2 q)
  · show (Yk.runs.set (hAt L 0).i [])[j]? = _
    rw [List.getElem?_set, if_neg (hne j hj)]
    exact h.keep j hj hs
  · show (Yk.runs.set (hAt L 0).i [])[i]? = _
    rw [List.getElem?_set, if_neg (hne i (hS i hi))]
    exact (h.r i hi).2.1
theorem MI.take {ks : List (Int × Bool)} {ids : List Nat} {S : Option Nat} {BU : Nat} {Y Y1 Y2 : Yv} {L : List Hd} {O : List (List Val)} {x : List Val} (h : MI ks ids S BU Y Y1 L O [x]) (hm : Mv S [x] Y1 Y2) (hrd : Y2.rd = false) (hS : ∀ i, S = some i → i ∉ ids) : MI ks ids S BU Y Y2 L (O ++ [x]) [] := by
  have hhd := h.held
  have hhm := h.hm
  have e1 := hm.held
  have hrun : Y2.runs.length = Y1.runs.length ∧ ∀ j, S ≠ some j → Y2.runs[j]? = Y1.runs[j]? := by
    cases S with
    | none => rw [(hm.o rfl).2.1]; exact ⟨rfl, fun _ _ => rfl⟩
    | some i =>
      rw [(hm.r i rfl).2.1 O (h.r i rfl).2.1]
      refine ⟨by rw [List.length_set], fun j hj => ?_⟩
      rw [List.getElem?_set, if_neg (fun e => hj (by rw [e]))]
  have hgd : ∀ z ∈ L, Y2.runs.getD z.i [] = Y1.runs.getD z.i [] := fun z hz => by
    rw [List.getD_eq_getElem?_getD, List.getD_eq_getElem?_getD, hrun.2 z.i (fun e => hS z.i e (h.sub z hz))]
  have hrest := restR_cong hgd
  have hp := h.perm
  have hs := h.srt
  have hc := h.crs
  refine ⟨hrd, hm.rf.trans h.rf, hm.cd.trans h.cd, ?_, by rw [hm.most]; exact h.most, ?_, hrun.1.trans h.len, h.ll, h.sub, fun z hz => by rw [hm.there]; exact h.thr z hz, fun j hj => by rw [hm.there]; exact h.oth j hj, fun j hj hn => by rw [hm.there]; exact h.off j hj hn, h.mks.cong hrun.1 hgd, h.heap, by rw [hrest, List.append_nil]; exact hp, by rw [List.append_nil]; exact hs, by rw [hrest, List.append_nil]; exact hc, fun j hj hn => (hrun.2 j hn).trans (h.keep j hj hn), fun e => ?_, fun i e => ?_⟩
  · rw [e1, hhd]; simp
  · rw [hm.most, e1]; simp; omega
  · obtain ⟨q1, q2, q3⟩ := hm.o e
    obtain ⟨r1, r2⟩ := h.o e
    exact ⟨by rw [q1, r1, List.append_assoc], q3.trans r2⟩
  · obtain ⟨q1, q2, q3⟩ := hm.r i e
    obtain ⟨r1, r2, r3⟩ := h.r i e
    have hil : i < Y1.runs.length := (List.getElem?_eq_some_iff.1 r2).1
    refine ⟨q1.trans r1, ?_, by rw [q3, r3]; simp; omega⟩
    rw [q2 O r2, List.getElem?_set, if_pos rfl, if_pos hil]
/-- A merge was refused. -/
structure Rfm (ks : List (Int × Bool)) (ids : List Nat) (S : Option Nat) (BU : Nat) (Y Y' : Yv) : Prop where
  rd : Y'.rd = true
  calls : Y'.calls = Y'.rf
  rf : Y'.rf = Y.rf
  cd : Y'.cd = Y.cd
  most : Y'.most ≤ BU
  runs : Y'.runs.length = Y.runs.length
  out : ∃ O R, Y'.out = Y.out ++ O ∧ (O ++ R).Perm (rowsOf Y.runs ids) ∧ O.Pairwise (fun x y => ordG ks x y ≤ 0) ∧ (∀ x ∈ O, ∀ z ∈ R, ordG ks x z ≤ 0) ∧ ∀ i, S = some i → O = []
theorem MI.no {ks : List (Int × Bool)} {ids : List Nat} {S : Option Nat} {BU : Nat} {Y Yk Y' : Yv} {L : List Hd} {O hand : List (List Val)} (h : MI ks ids S BU Y Yk L O hand) (h1 : Y'.rd = true) (h2 : Y'.calls = Y'.rf) (h3 : Y'.rf = Yk.rf) (h4 : Y'.cd = Yk.cd) (h5 : Y'.most = Yk.most) (h6 : Y'.out = Yk.out) (h7 : Y'.runs.length = Yk.runs.length) : Rfm ks ids S BU Y Y' := by
  refine ⟨h1, h2, h3.trans h.rf, h4.trans h.cd, by rw [h5]; exact h.most, h7.trans h.len, ?_⟩
  cases S with
  | none =>
    refine ⟨O, hand ++ restR Yk.runs L, by rw [h6]; exact (h.o rfl).1, by rw [← List.append_assoc]; exact h.perm, (List.pairwise_append.1 h.srt).1, fun x hx z hz => ?_, fun i e => by cases e⟩
    rcases List.mem_append.1 hz with q | q
    · exact (List.pairwise_append.1 h.srt).2.2 x hx z q
    · exact h.crs x (by simp [hx]) z q
  | some i => exact ⟨[], rowsOf Y.runs ids, by rw [h6, (h.r i rfl).1]; simp, by simp, by simp, by simp, fun _ _ => rfl⟩
theorem MI.done {ks : List (Int × Bool)} {ids : List Nat} {S : Option Nat} {BU : Nat} {Y Yk : Yv} {O : List (List Val)} (h : MI ks ids S BU Y Yk [] O []) : O.Perm (rowsOf Y.runs ids) ∧ O.Pairwise (fun x y => ordG ks x y ≤ 0) := by
  have hp := h.perm
  have hs := h.srt
  simp only [List.append_nil] at hs hp
  refine ⟨?_, hs⟩
  have : restR Yk.runs [] = [] := rfl
  rw [this, List.append_nil] at hp
  exact hp
/-- What has come out is how the sorted list begins. -/
theorem pre_of {ks : List (Int × Bool)} {A O R W : List (List Val)} (h1 : (O ++ R).Perm A) (h2 : O.Pairwise fun x y => ordG ks x y ≤ 0) (h3 : ∀ x ∈ O, ∀ z ∈ R, ordG ks x z ≤ 0) (h4 : W.Perm A) (h5 : W.Pairwise fun x y => ordG ks x y ≤ 0) (h6 : ∀ x ∈ W, cleanR x = x) : O.length ≤ W.length ∧ O = W.take O.length := by
  have hp := List.mergeSort_perm R (fun x y => decide (ordG ks x y ≤ 0))
  have hs : (R.mergeSort fun x y => decide (ordG ks x y ≤ 0)).Pairwise fun x y => ordG ks x y ≤ 0 := by
    have := List.pairwise_mergeSort (le := fun x y => decide (ordG ks x y ≤ 0)) (fun a b c q1 q2 => by
      simp only [decide_eq_true_eq] at q1 q2 ⊢
      exact ordG_le ks _ _ _ q1 q2) (fun a b => by
      have := ordG_anti ks a b
      simp only [Bool.or_eq_true, decide_eq_true_eq]
      omega) R
    exact this.imp (by simp)
  generalize R.mergeSort (fun x y => decide (ordG ks x y ≤ 0)) = R' at hp hs
  have e : W = O ++ R' := srt_eq (ks := ks) h5 (by
    rw [List.pairwise_append]
    exact ⟨h2, hs, fun x hx z hz => h3 x hx z (hp.mem_iff.1 hz)⟩) (h4.trans (h1.symm.trans (List.Perm.append (List.Perm.refl _) hp.symm))) h6
  rw [e]
  exact ⟨by simp, by simp⟩
end Go.Proofs.YtcbenpodohjbiaaGreat

import Derived.Test.YtcbenpodohjbiaaGreatSqE
import Derived.Test.YtcbenpodohjbiaaGreatSpH
import Derived.Test.YtcbenpodohjbiaaGreatSpZ
set_option linter.unusedSimpArgs false
set_option linter.unusedVariables false
namespace Go.Proofs.YtcbenpodohjbiaaGreat

theorem ordG_nil (x y : List Val) : ordG [] x y = rowsV x y := by simp [ordG, keysV]
/-- What merge has done where each row is wanted once: O has gone into the sink, hand is on its way, ex rows are held beside the heads; st: what is to come stands behind hand. -/
structure M1 (ids : List Nat) (S : Option Nat) (BU : Nat) (Y Yk : Yv) (L : List Hd) (O hand : List (List Val)) (ex : Nat) (st : Bool) : Prop where
  rd : Yk.rd = false
  rf : Yk.rf = Y.rf
  cd : Yk.cd = Y.cd
  held : Yk.held = (L.length : Int) + ex
  most : Yk.most ≤ BU
  hm : Yk.held ≤ Yk.most
  len : Yk.runs.length = Y.runs.length
  ll : L.length ≤ ids.length
  sub : ∀ z ∈ L, z.i ∈ ids
  thr : ∀ z ∈ L, Yk.there[z.i]? = some true
  oth : ∀ j, j ∉ ids → Yk.there[j]? = Y.there[j]?
  off : ∀ j ∈ ids, j ∉ L.map Hd.i → Yk.there[j]? = some false
  mks : Mk [] Yk.runs L
  heap : Hp [] 0 L
  cln : ∀ x, x ∈ hand ∨ x ∈ restR Yk.runs L → cleanR x = x
  mem : ∀ x, (x ∈ O ∨ x ∈ hand ∨ x ∈ restR Yk.runs L) ↔ x ∈ rowsOf Y.runs ids
  tot : O.length + hand.length + (restR Yk.runs L).length ≤ (rowsOf Y.runs ids).length
  srt : Rs (O ++ hand)
  crsO : ∀ x ∈ O, ∀ z ∈ restR Yk.runs L, rowsV x z < 0
  crsH : ∀ x ∈ hand, ∀ z ∈ restR Yk.runs L, rowsV x z ≤ 0 ∧ (st = true → rowsV x z < 0)
  keep : ∀ j, j ∉ ids → S ≠ some j → Yk.runs[j]? = Y.runs[j]?
  o : S = none → Yk.out = Y.out ++ O ∧ Yk.puts = Y.puts
  r : ∀ i, S = some i → Yk.out = Y.out ∧ Yk.runs[i]? = some O ∧ Yk.puts = Y.puts + O.length
theorem M1.zero {ids : List Nat} {S : Option Nat} {BU : Nat} {Y Yk : Yv} {L : List Hd} {O hand : List (List Val)} {ex : Nat} {st : Bool} (h : M1 ids S BU Y Yk L O hand ex st) (hL : 0 < L.length) : (hAt L 0).i ∈ ids ∧ Yk.there[(hAt L 0).i]? = some true ∧ (hAt L 0).i < Yk.runs.length :=
  ⟨h.sub _ (hAt_mem hL), h.thr _ (hAt_mem hL), h.mks.lt _ (hAt_mem hL)⟩
theorem M1.start {ids : List Nat} {S : Option Nat} {BU : Nat} {Y Yk : Yv} {L L0 : List Hd} (h : Opn ids L0 Y Yk) (hL : L.Perm L0) (hp : Hp [] 0 L) (hnd : ids.Nodup) (hb : ids.length + 1 ≤ BU) (h0 : Y.held = 0) (hm : Y.most ≤ BU) (hm0 : 0 ≤ Y.most) (hth : ∀ i ∈ ids, Y.there[i]? = some true) (hs : ∀ i ∈ ids, (Y.runs.getD i []).Pairwise fun x y => ordG [] x y ≤ 0) (hc : ∀ i ∈ ids, ∀ x ∈ Y.runs.getD i [], cleanR x = x) (hS : ∀ i, S = some i → i ∉ ids ∧ Y.runs[i]? = some []) : M1 ids S BU Y Yk L [] [] 0 false := by
  have hM := MI.start (S := S) h hL hp hnd hb h0 hm hm0 hth hs hc hS
  have hpm := hM.perm
  simp only [List.nil_append] at hpm
  refine ⟨hM.rd, hM.rf, hM.cd, by have := hM.held; simpa using this, hM.most, hM.hm, hM.len, hM.ll, hM.sub, hM.thr, hM.oth, hM.off, hM.mks, hM.heap, fun x hx => ?_, fun x => ?_, ?_, by simp [Rs], by simp, by simp, hM.keep, hM.o, hM.r⟩
  · rcases hx with q | q
    · simp at q
    · have hx' := hpm.mem_iff.1 q
      unfold rowsOf at hx'
      obtain ⟨j, hj, hxj⟩ := List.mem_flatMap.1 hx'
      exact hc j hj x hxj
  · have := hpm.mem_iff (a := x)
    simpa using this
  · have := hpm.length_eq
    simp at this ⊢
    omega
theorem M1.low {ids : List Nat} {S : Option Nat} {BU : Nat} {Y Yk : Yv} {L : List Hd} {O hand : List (List Val)} {ex : Nat} {st : Bool} (h : M1 ids S BU Y Yk L O hand ex st) : ∀ z ∈ restR Yk.runs L, rowsV (hAt L 0).r z ≤ 0 := fun z hz => by
  have := h.mks.min h.heap z hz
  rw [ordG_nil] at this
  exact this
/-- What a step keeps of the yard, and of which runs are there. -/
structure Stp (ids : List Nat) (S : Option Nat) (BU : Nat) (Y Yk Y1 : Yv) (L L' : List Hd) (ex : Nat) : Prop where
  rd : Y1.rd = false
  rf : Y1.rf = Y.rf
  cd : Y1.cd = Y.cd
  held : Y1.held = (L'.length : Int) + (ex + 1 : Nat)
  most : Y1.most ≤ BU
  hm : Y1.held ≤ Y1.most
  len : Y1.runs.length = Y.runs.length
  ll : L'.length ≤ ids.length
  sub : ∀ z ∈ L', z.i ∈ ids
  thr : ∀ z ∈ L', Y1.there[z.i]? = some true
  oth : ∀ j, j ∉ ids → Y1.there[j]? = Y.there[j]?
  off : ∀ j ∈ ids, j ∉ L'.map Hd.i → Y1.there[j]? = some false
  mks : Mk [] Y1.runs L'
  heap : Hp [] 0 L'
  pm : (restR Yk.runs L).Perm ((hAt L 0).r :: restR Y1.runs L')
  keep : ∀ j, j ∉ ids → S ≠ some j → Y1.runs[j]? = Y.runs[j]?
  out : Y1.out = Yk.out
  puts : Y1.puts = Yk.puts
  snk : ∀ i, S = some i → Y1.runs[i]? = Yk.runs[i]?
  calls : Y1.calls = IntKind.i64.wrap (Yk.calls + 1)
theorem M1.row {ids : List Nat} {S : Option Nat} {BU : Nat} {Y Yk : Yv} {L L' : List Hd} {O hand : List (List Val)} {ex : Nat} {st : Bool} {u : Value} {r : List Val} {rs : List (List Val)} (h : M1 ids S BU Y Yk L O hand ex st) (hL : 0 < L.length) (hex : ex = 0) (hb : ids.length + 1 ≤ BU) (hr : Yk.runs[(hAt L 0).i]? = some (r :: rs)) (hp : L'.Perm (⟨u, cleanR r, (hAt L 0).i⟩ :: L.tail)) (hh : Hp [] 0 L') (hit : Yk.hit = false) (hS : ∀ i, S = some i → i ∉ ids) : Stp ids S BU Y Yk ((Yk.tick.read (hAt L 0).i rs).hold 1) L L' ex := by
  obtain ⟨m1, m2, m3⟩ := h.mks.row hL hr hp
  obtain ⟨z1, z2, z3⟩ := h.zero hL
  have hhd := h.held
  have hmo := h.most
  have hhm := h.hm
  have hll := h.ll
  have eL := head_tail hL
  have hmap : (L'.map Hd.i).Perm (L.map Hd.i) := by
    have := hp.map Hd.i
    rw [List.map_cons] at this
    rw [eL, List.map_cons]
    exact this
  have hsub : ∀ z ∈ L', z.i ∈ ids ∧ Yk.there[z.i]? = some true := fun z hz => by
    rcases List.mem_cons.1 (hp.mem_iff.1 hz) with q | q
    · subst q; exact ⟨z1, z2⟩
    · have : z ∈ L := by rw [eL]; exact List.mem_cons_of_mem _ q
      exact ⟨h.sub z this, h.thr z this⟩
  have e1 : ((Yk.tick.read (hAt L 0).i rs).hold 1).held = Yk.held + 1 := rfl
  have e2 : ((Yk.tick.read (hAt L 0).i rs).hold 1).most = if Yk.held + 1 > Yk.most then Yk.held + 1 else Yk.most := rfl
  have hne : ∀ j, j ∉ ids → (hAt L 0).i ≠ j := fun j hj e => hj (e ▸ z1)
  refine ⟨hit, h.rf, h.cd, by rw [e1, hhd, m3]; omega, ?_, ?_, ?_, by omega, fun z hz => (hsub z hz).1, fun z hz => (hsub z hz).2, h.oth, fun j hj hn => h.off j hj (fun q => hn (hmap.mem_iff.2 q)), m1, hh, m2, fun j hj hs => ?_, rfl, rfl, fun i hi => ?_, rfl⟩
  · rw [e2]; split <;> omega
  · rw [e1, e2]; split <;> omega
  · show (Yk.runs.set (hAt L 0).i rs).length = _; rw [List.length_set]; exact h.len
  · show (Yk.runs.set (hAt L 0).i rs)[j]? = _
    rw [List.getElem?_set, if_neg (hne j hj)]
    exact h.keep j hj hs
  · show (Yk.runs.set (hAt L 0).i rs)[i]? = _
    rw [List.getElem?_set, if_neg (hne i (hS i hi))]
theorem M1.end_ {ids : List Nat} {S : Option Nat} {BU : Nat} {Y Yk : Yv} {L L' : List Hd} {O hand : List (List Val)} {ex : Nat} {st : Bool} (h : M1 ids S BU Y Yk L O hand ex st) (hL : 0 < L.length) (hr : Yk.runs[(hAt L 0).i]? = some []) (hp : L'.Perm L.tail) (hh : Hp [] 0 L') (hit : Yk.hit = false) (hS : ∀ i, S = some i → i ∉ ids) : Stp ids S BU Y Yk (Yk.tick.drop (hAt L 0).i) L L' ex := by
  obtain ⟨m1, m2, m3⟩ := h.mks.end_ hL hr hp
  obtain ⟨z1, z2, z3⟩ := h.zero hL
  have hhd := h.held
  have hll := h.ll
  have eL := head_tail hL
  have hnd := h.mks.once
  rw [eL, List.map_cons, List.nodup_cons] at hnd
  have hmap : (L'.map Hd.i).Perm (L.tail.map Hd.i) := hp.map Hd.i
  have hne : ∀ j, j ∉ ids → (hAt L 0).i ≠ j := fun j hj e => hj (e ▸ z1)
  have htl : (hAt L 0).i < Yk.there.length := (List.getElem?_eq_some_iff.1 z2).1
  have e1 : (Yk.tick.drop (hAt L 0).i).there = Yk.there.set (hAt L 0).i false := rfl
  have hsub : ∀ z ∈ L', z.i ∈ ids ∧ (Yk.tick.drop (hAt L 0).i).there[z.i]? = some true := fun z hz => by
    have q := hp.mem_iff.1 hz
    have hzL : z ∈ L := by rw [eL]; exact List.mem_cons_of_mem _ q
    refine ⟨h.sub z hzL, ?_⟩
    rw [e1, List.getElem?_set, if_neg (fun e => hnd.1 (by rw [e]; exact List.mem_map.2 ⟨z, q, rfl⟩))]
    exact h.thr z hzL
  refine ⟨hit, h.rf, h.cd, ?_, h.most, h.hm, ?_, by omega, fun z hz => (hsub z hz).1, fun z hz => (hsub z hz).2, fun j hj => ?_, fun j hj hn => ?_, m1, hh, m2, fun j hj hs => ?_, rfl, rfl, fun i hi => ?_, rfl⟩
  · show Yk.held = _
    rw [hhd]; omega
  · show (Yk.runs.set (hAt L 0).i []).length = _; rw [List.length_set]; exact h.len
  · rw [e1, List.getElem?_set, if_neg (hne j hj)]
    exact h.oth j hj
  · rw [e1, List.getElem?_set]
    by_cases e : (hAt L 0).i = j
    · rw [if_pos e, if_pos htl]
    · rw [if_neg e]
      refine h.off j hj (fun q => ?_)
      rw [eL, List.map_cons] at q
      rcases List.mem_cons.1 q with q | q
      · exact e q.symm
      · exact hn (hmap.mem_iff.2 q)
  · show (Yk.runs.set (hAt L 0).i [])[j]? = _
    rw [List.getElem?_set, if_neg (hne j hj)]
    exact h.keep j hj hs
  · show (Yk.runs.set (hAt L 0).i [])[i]? = _
    rw [List.getElem?_set, if_neg (hne i (hS i hi))]
/-- The first head's row is on its way. -/
theorem M1.first {ids : List Nat} {S : Option Nat} {BU : Nat} {Y Yk Y1 : Yv} {L L' : List Hd} {O : List (List Val)} {st : Bool} (h : M1 ids S BU Y Yk L O [] 0 st) (hs : Stp ids S BU Y Yk Y1 L L' 0) : M1 ids S BU Y Y1 L' O [(hAt L 0).r] 1 false := by
  have hmem : ∀ z, z ∈ restR Yk.runs L ↔ z = (hAt L 0).r ∨ z ∈ restR Y1.runs L' := fun z => by rw [hs.pm.mem_iff]; simp
  have hlen := hs.pm.length_eq
  have hlow := h.low
  have hst := h.srt
  rw [List.append_nil] at hst
  refine ⟨hs.rd, hs.rf, hs.cd, hs.held, hs.most, hs.hm, hs.len, hs.ll, hs.sub, hs.thr, hs.oth, hs.off, hs.mks, hs.heap, fun x hx => h.cln x (.inr ((hmem x).2 (by simpa using hx))), fun x => ?_, ?_, ?_, fun x hx z hz => h.crsO x hx z ((hmem z).2 (.inr hz)), fun x hx z hz => ?_, hs.keep, fun e => by rw [hs.out, hs.puts]; exact h.o e, fun i e => by rw [hs.out, hs.puts, hs.snk i e]; exact h.r i e⟩
  · rw [← h.mem x, hmem x]
    simp
  · have := h.tot
    rw [List.length_cons] at hlen
    simp at this ⊢
    omega
  · refine List.pairwise_append.2 ⟨hst, by simp, fun x hx y hy => ?_⟩
    simp at hy
    subst hy
    exact h.crsO x hx _ ((hmem _).2 (.inl rfl))
  · simp at hx
    subst hx
    exact ⟨hlow z ((hmem z).2 (.inr hz)), fun e => (by cases e)⟩
/-- The same row once more is let go of. -/
theorem M1.again {ids : List Nat} {S : Option Nat} {BU : Nat} {Y Yk Y1 : Yv} {L L' : List Hd} {O : List (List Val)} {x : List Val} (h : M1 ids S BU Y Yk L O [x] 0 false) (hs : Stp ids S BU Y Yk Y1 L L' 0) (hx : (hAt L 0).r = x) : M1 ids S BU Y Y1 L' O [x] 1 false := by
  have hmem : ∀ z, z ∈ restR Yk.runs L ↔ z = x ∨ z ∈ restR Y1.runs L' := fun z => by rw [hs.pm.mem_iff, hx]; simp
  have hlen := hs.pm.length_eq
  refine ⟨hs.rd, hs.rf, hs.cd, hs.held, hs.most, hs.hm, hs.len, hs.ll, hs.sub, hs.thr, hs.oth, hs.off, hs.mks, hs.heap, fun z hz => h.cln z (hz.imp id fun q => (hmem z).2 (.inr q)), fun z => ?_, ?_, h.srt, fun y hy z hz => h.crsO y hy z ((hmem z).2 (.inr hz)), fun y hy z hz => ⟨(h.crsH y hy z ((hmem z).2 (.inr hz))).1, fun e => (by cases e)⟩, hs.keep, fun e => by rw [hs.out, hs.puts]; exact h.o e, fun i e => by rw [hs.out, hs.puts, hs.snk i e]; exact h.r i e⟩
  · rw [← h.mem z, hmem z]
    simp
  · have := h.tot
    rw [List.length_cons] at hlen
    simp at this ⊢
    omega
/-- One row is let go of. -/
theorem M1.let_ {ids : List Nat} {S : Option Nat} {BU : Nat} {Y Yk : Yv} {L : List Hd} {O : List (List Val)} {x : List Val} (h : M1 ids S BU Y Yk L O [x] 1 false) : M1 ids S BU Y (Yk.hold (-1)) L O [x] 0 false := by
  have hhd := h.held
  have hhm := h.hm
  have em : (Yk.hold (-1)).most = Yk.most := hold_most (by omega)
  have eh : (Yk.hold (-1)).held = Yk.held + -1 := rfl
  exact ⟨h.rd, h.rf, h.cd, by rw [eh, hhd]; omega, by rw [em]; exact h.most, by rw [em, eh]; omega, h.len, h.ll, h.sub, h.thr, h.oth, h.off, h.mks, h.heap, h.cln, h.mem, h.tot, h.srt, h.crsO, h.crsH, h.keep, h.o, h.r⟩
/-- Nothing more is as the row on its way. -/
theorem M1.only {ids : List Nat} {S : Option Nat} {BU : Nat} {Y Yk : Yv} {L : List Hd} {O : List (List Val)} {x : List Val} {ex : Nat} {st : Bool} (h : M1 ids S BU Y Yk L O [x] ex st) (hn : 0 < L.length → rowsV (hAt L 0).r x ≠ 0) : M1 ids S BU Y Yk L O [x] ex true := by
  refine { h with crsH := fun y hy z hz => ⟨(h.crsH y hy z hz).1, fun _ => ?_⟩ }
  simp at hy
  subst hy
  have hL : 0 < L.length := by
    rcases Nat.eq_zero_or_pos L.length with q | q
    · have : L = [] := List.eq_nil_of_length_eq_zero q
      subst this
      simp [restR] at hz
    · exact q
  have h0 : (hAt L 0).r ∈ restR Yk.runs L := by
    unfold restR
    exact List.mem_flatten.2 ⟨_, List.mem_map.2 ⟨hAt L 0, hAt_mem hL, rfl⟩, by simp⟩
  have h1 := (h.crsH y (by simp) _ h0).1
  have h2 := hn hL
  have h3 := rows_anti y (hAt L 0).r
  exact rows_le_lt (by omega) (h.low z hz)
theorem M1.take {ids : List Nat} {S : Option Nat} {BU : Nat} {Y Y1 Y2 : Yv} {L : List Hd} {O : List (List Val)} {x : List Val} (h : M1 ids S BU Y Y1 L O [x] 1 true) (hm : Mv S [x] Y1 Y2) (hrd : Y2.rd = false) (hS : ∀ i, S = some i → i ∉ ids) : M1 ids S BU Y Y2 L (O ++ [x]) [] 0 true := by
  have hhd := h.held
  have hhm := h.hm
  have e1 := hm.held
  have hrun : Y2.runs.length = Y1.runs.length ∧ ∀ j, S ≠ some j → Y2.runs[j]? = Y1.runs[j]? := by
    cases S with
    | none => rw [(hm.o rfl).2.1]; exact ⟨rfl, fun _ _ => rfl⟩
    | some i =>
      rw [(hm.r i rfl).2.1 O (h.r i rfl).2.1]
      refine ⟨by rw [List.length_set], fun j hj => ?_⟩
      rw [List.getElem?_set, if_neg (fun e => hj (by rw [e]))]
  have hgd : ∀ z ∈ L, Y2.runs.getD z.i [] = Y1.runs.getD z.i [] := fun z hz => by
    rw [List.getD_eq_getElem?_getD, List.getD_eq_getElem?_getD, hrun.2 z.i (fun e => hS z.i e (h.sub z hz))]
  have hrest := restR_cong hgd
  refine ⟨hrd, hm.rf.trans h.rf, hm.cd.trans h.cd, ?_, by rw [hm.most]; exact h.most, ?_, hrun.1.trans h.len, h.ll, h.sub, fun z hz => by rw [hm.there]; exact h.thr z hz, fun j hj => by rw [hm.there]; exact h.oth j hj, fun j hj hn => by rw [hm.there]; exact h.off j hj hn, h.mks.cong hrun.1 hgd, h.heap, fun y hy => h.cln y (by rw [hrest] at hy; rcases hy with q | q; simp at q; exact .inr q), fun y => ?_, ?_, by rw [List.append_nil]; exact h.srt, fun y hy z hz => ?_, fun y hy => by simp at hy, fun j hj hn => (hrun.2 j hn).trans (h.keep j hj hn), fun e => ?_, fun i e => ?_⟩
  · rw [e1, hhd]; simp
  · rw [hm.most, e1]; simp; omega
  · rw [hrest, ← h.mem y]
    simp
    constructor
    · rintro ((q | q) | q)
      · exact .inl q
      · exact .inr (.inl q)
      · exact .inr (.inr q)
    · rintro (q | q | q)
      · exact .inl (.inl q)
      · exact .inl (.inr q)
      · exact .inr q
  · have := h.tot
    rw [hrest]
    simp at this ⊢
    omega
  · rw [hrest] at hz
    rcases List.mem_append.1 hy with q | q
    · exact h.crsO y q z hz
    · exact (h.crsH y q z hz).2 rfl
  · obtain ⟨q1, q2, q3⟩ := hm.o e
    obtain ⟨r1, r2⟩ := h.o e
    exact ⟨by rw [q1, r1, List.append_assoc], q3.trans r2⟩
  · obtain ⟨q1, q2, q3⟩ := hm.r i e
    obtain ⟨r1, r2, r3⟩ := h.r i e
    have hil : i < Y1.runs.length := (List.getElem?_eq_some_iff.1 r2).1
    refine ⟨q1.trans r1, ?_, by rw [q3, r3]; simp; omega⟩
    rw [q2 O r2, List.getElem?_set, if_pos rfl, if_pos hil]
theorem M1.loose {ids : List Nat} {S : Option Nat} {BU : Nat} {Y Yk : Yv} {L : List Hd} {O : List (List Val)} {ex : Nat} {st st' : Bool} (h : M1 ids S BU Y Yk L O [] ex st) : M1 ids S BU Y Yk L O [] ex st' := { h with crsH := fun x hx => by simp at hx }
/-- A merge was refused. -/
structure Rf1 (ids : List Nat) (S : Option Nat) (BU : Nat) (Y Y' : Yv) : Prop where
  rd : Y'.rd = true
  calls : Y'.calls = Y'.rf
  rf : Y'.rf = Y.rf
  cd : Y'.cd = Y.cd
  most : Y'.most ≤ BU
  runs : Y'.runs.length = Y.runs.length
  out : ∃ O R : List (List Val), Y'.out = Y.out ++ O ∧ (∀ x, (x ∈ O ∨ x ∈ R) ↔ x ∈ rowsOf Y.runs ids) ∧ Rs O ∧ (∀ x ∈ O, ∀ z ∈ R, rowsV x z < 0) ∧ ∀ i, S = some i → O = []
theorem M1.no {ids : List Nat} {S : Option Nat} {BU : Nat} {Y Yk Y' : Yv} {L : List Hd} {O hand : List (List Val)} {ex : Nat} {st : Bool} (h : M1 ids S BU Y Yk L O hand ex st) (h1 : Y'.rd = true) (h2 : Y'.calls = Y'.rf) (h3 : Y'.rf = Yk.rf) (h4 : Y'.cd = Yk.cd) (h5 : Y'.most = Yk.most) (h6 : Y'.out = Yk.out) (h7 : Y'.runs.length = Yk.runs.length) : Rf1 ids S BU Y Y' := by
  refine ⟨h1, h2, h3.trans h.rf, h4.trans h.cd, by rw [h5]; exact h.most, h7.trans h.len, ?_⟩
  cases S with
  | none =>
    refine ⟨O, hand ++ restR Yk.runs L, by rw [h6]; exact (h.o rfl).1, fun x => by rw [← h.mem x, List.mem_append], (rs_of_app h.srt).1, fun x hx z hz => ?_, fun i e => (by cases e)⟩
    rcases List.mem_append.1 hz with q | q
    · exact (rs_of_app h.srt).2.2 x hx z q
    · exact h.crsO x hx z q
  | some i => exact ⟨[], rowsOf Y.runs ids, by rw [h6, (h.r i rfl).1]; simp, fun x => by simp, by simp [Rs], by simp, fun _ _ => rfl⟩
theorem M1.done {ids : List Nat} {S : Option Nat} {BU : Nat} {Y Yk : Yv} {O : List (List Val)} {st : Bool} (h : M1 ids S BU Y Yk [] O [] 0 st) : Rs O ∧ (∀ x, x ∈ O ↔ x ∈ rowsOf Y.runs ids) ∧ O.length ≤ (rowsOf Y.runs ids).length := by
  have hs := h.srt
  rw [List.append_nil] at hs
  have hr : restR Yk.runs [] = [] := rfl
  have ht := h.tot
  refine ⟨hs, fun x => ?_, by omega⟩
  rw [← h.mem x, hr]
  simp
end Go.Proofs.YtcbenpodohjbiaaGreat
set_option linter.unusedSimpArgs false
set_option linter.unusedVariables false
set_option maxRecDepth 100000
namespace Go.Proofs.YtcbenpodohjbiaaGreat
open Go.RowKit Go.Sort

def okB (ks : List (Int × Bool)) (bu : Int) : Bool := keysB ks && (decide (4 ≤ bu) && decide (bu ≤ 65536))
theorem keysB_nn {ks : List (Int × Bool)} (h : keysB ks = true) : ∀ k ∈ ks, 0 ≤ k.1 := fun k hk => by
  unfold keysB at h
  simp only [Bool.and_eq_true, Bool.not_eq_true', List.any_eq_false] at h
  have := h.1 k.1 (List.mem_map.2 ⟨k, hk, rfl⟩)
  simp at this
  omega
def kc2 (k : Int × Bool) : List Value := [.int .i64 k.1, .bool k.2]
theorem kflat_len (L : List (Int × Bool)) : (L.flatMap kc2).length = L.length * 2 := by
  induction L with
  | nil => rfl
  | cons z L ih => rw [List.flatMap_cons, List.length_append, ih]; simp [kc2]; omega
theorem kflat_at : ∀ (L : List (Int × Bool)) (i j : Nat) (x : Int × Bool), L[i]? = some x → j < 2 → (L.flatMap kc2)[i * 2 + j]? = (kc2 x)[j]?
  | [], i, j, x, h, _ => by simp at h
  | z :: L, 0, j, x, h, hj => by
    simp at h
    subst h
    rw [List.flatMap_cons, List.getElem?_append_left (by simp [kc2]; omega)]
    simp
  | z :: L, i + 1, j, x, h, hj => by
    have ih := kflat_at L i j x (by simpa using h) hj
    rw [List.flatMap_cons, List.getElem?_append_right (by simp [kc2]; omega), ← ih]
    congr 1
    simp [kc2]
    omega
/-- Keys in a list of the call's own. -/
def OwnK (w : World) (base : Nat) (v : Value) (ks : List (Int × Bool)) : Prop := w.ownsRow base 58 2 v ks.length (ks.flatMap kc2)
theorem OwnK.later {w w1 : World} {base : Nat} {v : Value} {ks : List (Int × Bool)} (h : OwnK w base v ks) (hb : Below w.heap.size w w1) : OwnK w1 base v ks := own_later h hb
theorem OwnK.keys {w : World} {base : Nat} {v : Value} {ks : List (Int × Bool)} (h : OwnK w base v ks) : ∃ a c, v = .slice a ks.length c ∧ KeysAt w a ks ∧ ∀ b off, a = some ⟨b, off, none⟩ → ks ≠ [] → Tg 58 w b := by
  have h' := h
  unfold OwnK at h'
  rcases h'.2 with ⟨e, h0⟩ | ⟨g, cap, cur, e, _⟩
  · have : ks = [] := List.eq_nil_of_length_eq_zero h0
    subst this
    exact ⟨none, 0, e, .inl rfl, fun b off q => (by cases q)⟩
  · subst e
    refine ⟨_, _, rfl, .inr ⟨g, 0, rfl, fun i x hx => ?_⟩, fun b off q _ => ?_⟩
    · have hi := (List.getElem?_eq_some_iff.1 hx).1
      constructor
      · rw [Nat.zero_add, World.ownsRow.cellAt h' (i * 2) (by omega)]; exact kflat_at ks i 0 x hx (by omega)
      · rw [Nat.zero_add, World.ownsRow.cellAt h' (i * 2 + 1) (by omega)]; exact kflat_at ks i 1 x hx (by omega)
    · injection q with q
      injection q with q
      subst q
      exact own_tg h' rfl
theorem info58 : (Tryz.prog.info? 58).map (fun i => (i.zero, i.size, i.bytes)) = some (some (.agg #[.int .i64 0, .bool false]), 2, 16) := by kernel_rfl
/-- append of keys that lie elsewhere. -/
theorem wpList_push_keys {ops : Array Oper} {rest : List Oper} {o : Oper} {a : Act} {Q : Exit → Act → World → Prop} (w : World) (hgd : o.guard = none) (s x : Operand) (ho : o.op = .call { callee := .builtin .append, args := #[s, x], argTypes := #[23, 23] })
    (base : Nat) (v : Value) (L K : List (Int × Bool)) (ad : Addr) (c : Nat) (hs : a.eval s = v) (hown : OwnK w base v L) (hx : a.eval x = .slice (some ad) K.length c) (hK : KeysAt w (some ad) K) (hl : L.length + K.length ≤ 4000000) (hbase : base ≤ w.heap.size)
    (h : ∀ v' w', OwnK w' base v' (L ++ K) → Below base w w' → wpList Tryz.prog ops Q rest (a.put o.dst v') w') : wpList Tryz.prog ops Q (o :: rest) a w := by
  obtain ⟨i4, hi4, z40, z41, z42⟩ := info_parts info58
  have hnews : ∀ j u, (K.flatMap kc2)[j]? = some u → w.cell? (ad.add j) = some u := by
    rcases hK with hK | ⟨b, off, e, hK⟩
    · subst hK
      intro j u hj
      simp at hj
    · injection e with e
      subst e
      intro j u hj
      have hjl : j < K.length * 2 := by rw [← kflat_len]; exact (List.getElem?_eq_some_iff.1 hj).1
      have hk : K[j / 2]? = some K[j / 2] := List.getElem?_eq_getElem (by omega)
      have e1 := kflat_at K (j / 2) (j % 2) _ hk (by omega)
      rw [show j / 2 * 2 + j % 2 = j by omega, hj] at e1
      obtain ⟨c0, c1⟩ := hK (j / 2) _ hk
      rw [Addr.add_lit]
      rcases Nat.mod_two_eq_zero_or_one j with q | q
      · rw [q] at e1
        simp [kc2] at e1
        rw [e1, show off + j = off + j / 2 * 2 by omega]
        exact c0
      · rw [q] at e1
        simp [kc2] at e1
        rw [e1, show off + j = off + j / 2 * 2 + 1 by omega]
        exact c1
  have hone : ∀ u ∈ K.flatMap kc2, u.oneCell' = true := fun u hu => by
    obtain ⟨k, _, hk⟩ := List.mem_flatMap.1 hu
    simp [kc2] at hk
    rcases hk with rfl | rfl <;> rfl
  refine wpList_append_own_at w hgd s x 23 ho base 58 i4 (.agg #[.int .i64 0, .bool false]) 2 16 Tryz.underlying23 hi4 z40 z41 z42 rfl (by decide) v L.length (L.flatMap kc2) hs hown ad K.length c (K.flatMap kc2) hx (kflat_len K) hnews hone (by unfold maxLen; omega) (by omega) hbase ?_
  intro v' w' h1 h2 _ _
  refine h v' w' ?_ (grown_below h2 hbase (fun g e => (World.ownsRow.lt hown g e).1))
  unfold OwnK
  rw [List.length_append, List.flatMap_append]
  exact h1
theorem ownK_empty (w : World) (base : Nat) (hb : base ≤ w.heap.size) : OwnK (w.alloc (.cells #[] 58)) base (.slice (some ⟨w.heap.size, 0, none⟩) 0 0) [] := World.ownsRow_lit (base := base) (e := 58) (size := 2) w #[] 0 hb (by unfold maxLen; omega) rfl
end Go.Proofs.YtcbenpodohjbiaaGreat
set_option linter.unusedSimpArgs false
set_option linter.unusedVariables false
namespace Go.Proofs.YtcbenpodohjbiaaGreat

/-! How the document sorts: pure. -/
def widR (rs : List (List Val)) : Nat := rs.foldl (fun a r => max a r.length) 0
theorem widR_snoc (l : List (List Val)) (r : List Val) : widR (l ++ [r]) = max (widR l) r.length := by simp [widR, List.foldl_append]
theorem fold_ge : ∀ (rs : List (List Val)) (a : Nat), a ≤ rs.foldl (fun a r => max a r.length) a ∧ (∀ r ∈ rs, r.length ≤ rs.foldl (fun a r => max a r.length) a) ∧ ∀ M, a ≤ M → (∀ r ∈ rs, r.length ≤ M) → rs.foldl (fun a r => max a r.length) a ≤ M
  | [], a => ⟨Nat.le_refl _, fun r hr => by simp at hr, fun M h _ => h⟩
  | x :: rs, a => by
    obtain ⟨h1, h2, h3⟩ := fold_ge rs (max a x.length)
    simp only [List.foldl_cons]
    refine ⟨by omega, fun r hr => ?_, fun M hM hr => h3 M (by have := hr x (by simp); omega) (fun r hr' => hr r (by simp [hr']))⟩
    rcases List.mem_cons.1 hr with q | q
    · subst q; omega
    · exact h2 r q
theorem widR_le {rs : List (List Val)} : ∀ r ∈ rs, r.length ≤ widR rs := (fold_ge rs 0).2.1
theorem widR_max {rs : List (List Val)} {M : Nat} (h : ∀ r ∈ rs, r.length ≤ M) : widR rs ≤ M := (fold_ge rs 0).2.2 M (Nat.zero_le _) h
def padR (n : Nat) (x : List Val) : List Val := x ++ List.replicate (n - x.length) Val.null
theorem padR_len {n : Nat} {x : List Val} (h : x.length ≤ n) : (padR n x).length = n := by unfold padR; rw [List.length_append, List.length_replicate]; omega
theorem padR_getD (n : Nat) (x : List Val) (i : Nat) : (padR n x).getD i .null = x.getD i .null := by
  unfold padR
  rw [List.getD_eq_getElem?_getD, List.getD_eq_getElem?_getD]
  by_cases h : i < x.length
  · rw [List.getElem?_append_left h]
  · rw [List.getElem?_append_right (by omega), List.getElem?_replicate, List.getElem?_eq_none (l := x) (by omega)]
    split <;> rfl
theorem padR_at {n : Nat} {x : List Val} {i : Nat} (h : i < n) (hx : x.length ≤ n) : (padR n x)[i]? = some (x.getD i .null) := by
  have h1 := padR_getD n x i
  have h2 := padR_len hx
  rw [← h1, List.getD_eq_getElem?_getD, List.getElem?_eq_getElem (by omega)]
  rfl
theorem keyV_pad (n : Nat) (k : Int × Bool) (x y : List Val) : keyV k (padR n x) (padR n y) = keyV k x y := by
  unfold keyV
  rw [padR_getD, padR_getD]
theorem keysV_pad (n : Nat) : ∀ (ks : List (Int × Bool)) (x y : List Val), keysV ks (padR n x) (padR n y) = keysV ks x y
  | [], _, _ => rfl
  | k :: ks, x, y => by
    simp only [keysV]
    rw [keyV_pad, keysV_pad n ks]
def hereK (ks : List (Int × Bool)) (n : Nat) : List (Int × Bool) := ks.filter fun k => decide (k.1 < (n : Int))
theorem hereK_snoc (ks : List (Int × Bool)) (k : Int × Bool) (n : Nat) : hereK (ks ++ [k]) n = hereK ks n ++ if k.1 < (n : Int) then [k] else [] := by
  unfold hereK
  rw [List.filter_append]
  congr 1
  by_cases h : k.1 < (n : Int)
  · rw [if_pos h]; simp [h]
  · rw [if_neg h]; simp [h]
theorem keyV_out {n : Nat} {k : Int × Bool} {x y : List Val} (hk : 0 ≤ k.1) (h : ¬ k.1 < (n : Int)) (hx : x.length ≤ n) (hy : y.length ≤ n) : keyV k x y = 0 := by
  have e1 : x.getD k.1.toNat .null = .null := by rw [List.getD_eq_getElem?_getD, List.getElem?_eq_none (by omega)]; rfl
  have e2 : y.getD k.1.toNat .null = .null := by rw [List.getD_eq_getElem?_getD, List.getElem?_eq_none (by omega)]; rfl
  unfold keyV
  rw [e1, e2, ord_self]
  simp
theorem keysV_here {n : Nat} {x y : List Val} (hx : x.length ≤ n) (hy : y.length ≤ n) : ∀ (ks : List (Int × Bool)), (∀ k ∈ ks, 0 ≤ k.1) → keysV (hereK ks n) x y = keysV ks x y
  | [], _ => rfl
  | k :: ks, h => by
    have ih := keysV_here hx hy ks (fun z hz => h z (by simp [hz]))
    unfold hereK at ih ⊢
    by_cases hk : k.1 < (n : Int)
    · rw [List.filter_cons_of_pos (by simpa using hk)]
      simp only [keysV]
      rw [ih]
    · rw [List.filter_cons_of_neg (by simpa using hk), ih]
      simp only [keysV]
      rw [if_pos (keyV_out (h k (by simp)) hk hx hy)]
/-- A row is put at its place among those that are sorted. -/
theorem ins_srt {ks : List (Int × Bool)} {pre mid : List (List Val)} {x : List Val} (hs : (pre ++ mid).Pairwise fun a b => ordG ks a b ≤ 0) (hm : ∀ z ∈ mid, keysV ks x z < 0) (hr : ∀ p ∈ pre, rowsV p x ≤ 0) (hl : ∀ q, pre.getLast? = some q → ¬ keysV ks x q < 0) : (pre ++ x :: mid).Pairwise fun a b => ordG ks a b ≤ 0 := by
  rw [List.pairwise_append] at hs ⊢
  obtain ⟨s1, s2, s3⟩ := hs
  have hxm : ∀ z ∈ mid, ordG ks x z ≤ 0 := fun z hz => by
    have := hm z hz
    unfold ordG
    rw [if_neg (by omega)]
    omega
  have hpx : ∀ p ∈ pre, ordG ks p x ≤ 0 := fun p hp => by
    obtain ⟨q, hq⟩ : ∃ q, pre.getLast? = some q := by
      cases hg : pre.getLast? with
      | none => rw [List.getLast?_eq_none_iff] at hg; rw [hg] at hp; simp at hp
      | some q => exact ⟨q, rfl⟩
    have hqm : q ∈ pre := List.mem_of_getLast? hq
    have h1 := hl q hq
    have hqx : ordG ks q x ≤ 0 := by
      have ha := keysV_anti ks q x
      unfold ordG
      by_cases e : keysV ks q x = 0
      · rw [if_pos e]; exact hr q hqm
      · rw [if_neg e]; omega
    have hpq : ordG ks p q ≤ 0 := by
      obtain ⟨l, hl⟩ := List.getLast?_eq_some_iff.1 hq
      rw [hl] at hp s1
      rcases List.mem_append.1 hp with z | z
      · exact (List.pairwise_append.1 s1).2.2 p z q (by simp)
      · simp at z; subst z; rw [ordG_self]; omega
    exact ordG_le ks _ _ _ hpq hqx
  refine ⟨s1, List.pairwise_cons.2 ⟨hxm, s2⟩, fun a ha b hb => ?_⟩
  rcases List.mem_cons.1 hb with q | q
  · subst q; exact hpx a ha
  · exact s3 a ha b q
end Go.Proofs.YtcbenpodohjbiaaGreat
set_option linter.unusedSimpArgs false
set_option linter.unusedVariables false
set_option maxRecDepth 100000
namespace Go.Proofs.YtcbenpodohjbiaaGreat
open Go.RowKit Go.Sort

/-- What open answers. -/
def OpenP (w : World) (b y m mg B : Nat) (ks : List (Int × Bool)) (Y : Yv) (op : Option Nat) (ids : List Nat) (F : Nat → Prop) (e : Ending) (w' : World) : Prop :=
  ∃ (Y' : Yv) (L : List Hd) (c : Int), e = .returned (.int .i64 c) ∧ Mo w w' b y m mg B ks Y' op L F ∧
    ((c = 0 ∧ Hp ks 0 L ∧ ∃ L0, L.Perm L0 ∧ Opn ids L0 Y Y') ∨ (c = Y.cd ∧ ∃ k L0 Yk, k < ids.length ∧ Opn (ids.take k) L0 Y Yk ∧ Yk.hit = true ∧ Y' = Yk.tick))
theorem Mw.settled {F : Nat → Prop} {w w' : World} {b y m mg B : Nat} {ks : List (Int × Bool)} {Y : Yv} {op : Option Nat} {L L' : List Hd} {F0 : Nat → Prop} {vH : Value} (h1 : ¬ F y) (h2 : F mg) (h3 : ∀ k, F0 k → F k) (h4 : ¬ F0 mg) (h5 : ∀ g, vH.ownBlock = some g → F g ∧ ¬ F0 g) (h6 : Yw w b y m Y op F0) (h7 : Mx w mg y B vH) (h8 : OwnH w vH L) (h9 : OrdF w B ks) (hH : OwnH w' vH L') (hK : Ky (fun k => vH.ownBlock = some k) w w') : Mw w' b y m mg B ks Y op L' F :=
  ⟨h1, h2, F0, vH, h3, h4, h5, h6.ky hK (fun k e => (h5 k e).2) (fun e => (own_tg h8.1 e).ne h6.tgy (by decide) rfl), h7.ky hK (fun e => (own_tg h8.1 e).ne h7.tg (by decide) rfl), hH, h9.ky hK⟩

set_option maxHeartbeats 8000000 in
/-- open (66). -/
theorem open_any {F : Nat → Prop} {w : World} {b y m mg B : Nat} {ks : List (Int × Bool)} {Y : Yv} {op : Option Nat} {a : Option Addr} {c : Nat} {ids : List Nat} (h : Mw w b y m mg B ks Y op [] F) (hids : IdsK w F a ids) (hnd : ids.Nodup) (hn : ids.length ≤ 65536) (hrl : Y.runs.length ≤ 1048576) (g0 : 0 ≤ Y.held) (g1 : Y.held + ids.length ≤ 1048576) (hrd : Y.rd = false) (hcd : Y.cd ≠ 0) (hth : ∀ i ∈ ids, Y.there[i]? = some true ∧ op ≠ some i ∧ ∃ x rs, Y.runs[i]? = some (x :: rs)) :
    Calls Tryz.prog 66 #[.pointer (some ⟨mg, 0, none⟩), .slice a ids.length c] w fun e w' => OpenP w b y m mg B ks Y op ids F e w' := by
  have H0 : Hid (OI w w b y m mg B ks Y op a ids F 0 [] Y F) := ⟨Nw.refl _ _, fun _ q => q, h, Ky.refl _ _, hids, Opn.start hrd⟩
  have HTH := hide hth
  have HND := hide hnd
  clear h hids hth hnd
  go_enter Tryz.func66, Tryz.ntmps66
  go_wp2_with fail
  go_loopw [14, 4] (fun s14 s4 wr => ∃ (k : Nat) (L : List Hd) (Yk : Yv) (F1 : Nat → Prop), k ≤ ids.length ∧ s14 = .int .i64 (k : Int) ∧ s4 = .int .i64 0 ∧ Hid (OI w wr b y m mg B ks Y op a ids F k L Yk F1)) (fun s14 _ _ => ids.length - (intOf s14).toNat)
  case atStart => exact ⟨0, [], Y, F, Nat.zero_le _, rfl, rfl, H0⟩
  case round =>
    obtain ⟨k, L, Yk, F1, hk, rfl, rfl, HI⟩ := hrel
    have hI := unhide HI
    have hlen : L.length = k := by
      have := congrArg List.length hI.opn.hids
      rw [List.length_map, List.length_take] at this
      omega
    by_cases hlt : k < ids.length
    · have h9 : (k : Int) < (ids.length : Int) := by omega
      obtain ⟨i, hx⟩ : ∃ i, ids[k]? = some i := ⟨_, List.getElem?_eq_getElem hlt⟩
      obtain ⟨bI, oI, ea, _, _, hcell⟩ : ∃ b off, a = some ⟨b, off, none⟩ ∧ Tg 3 wr b ∧ ¬ F1 b ∧ ∀ (i : Nat) (x : Nat), ids[i]? = some x → wr.cell? ⟨b, off + i, none⟩ = some (.int .i64 (x : Nat)) := by
        rcases hI.hid with e | e
        · rw [e] at hx; cases hx
        · exact e
      subst ea
      have cI := hcell k i hx
      obtain ⟨t1, t2, x, rs, t3⟩ := unhide HTH i (List.mem_of_getElem? hx)
      have hni : i ∉ ids.take k := fun q => by
        obtain ⟨j, hj⟩ := List.getElem?_of_mem q
        have hjk : j < k := by have := (List.getElem?_eq_some_iff.1 hj).1; rw [List.length_take] at this; omega
        rw [List.getElem?_take, if_pos hjk] at hj
        have := (List.getElem?_inj (by omega) (unhide HND)).1 (hj.trans hx.symm)
        omega
      have t1' : Yk.there[i]? = some true := by rw [hI.opn.there]; exact t1
      have t3' : Yk.runs[i]? = some (x :: rs) := by rw [hI.opn.oth i hni]; exact t3
      obtain ⟨h1, h2, F0, vH, h3, h4, h5, h6, h7, h8, h9'⟩ := hI.mw
      have c0 := h7.c0
      have hcd1 : Yk.cd ≠ 0 := by rw [hI.opn.cd]; exact hcd
      have hheld : Yk.held = Y.held + k := by rw [hI.opn.held, List.length_take, Nat.min_eq_left hk]
      cases hit : Yk.hit
      · have HC := hide (ynext_row h6 t2 t1' t3' (by rw [hI.opn.len]; exact hrl) (by omega) (by omega) hI.opn.rd hit)
        have HIT := hide hit
        obtain ⟨aH, cH, rfl⟩ : ∃ aH cH, vH = .slice aH L.length cH := by
          rcases h8.1.2 with ⟨rfl, h0⟩ | ⟨g, cap, cur, rfl, _⟩
          · exact ⟨none, 0, by rw [h0]⟩
          · exact ⟨_, _, rfl⟩
        have HLL : Hid (L.length + 1 ≤ 4194304) := by show _ ≤ _; omega
        have HM1 : Hid (∀ w1, Ky F0 wr w1 → Mx w1 mg y B (.slice aH L.length cH) ∧ OwnH w1 (.slice aH L.length cH) L) := fun w1 q => ⟨h7.ky q h4, h8.ky q (fun g e => (h5 g e).2)⟩
        have HPU : Hid (∀ (w1 w2 : World) (F2 : Nat → Prop) (vH' : Value) (z : Hd), Nw F0 F2 wr → Yw w1 b y m ((Yk.tick.read i rs).hold 1) op F2 → Ky F0 wr w1 → Below w1.heap.size w1 (w1.alloc (.cells #[z.u, .int .i64 (i : Nat)] 120)) → OwnH w2 vH' (L ++ [z]) → Grew (w1.alloc (.cells #[z.u, .int .i64 (i : Nat)] 120)) w2 (.slice aH L.length cH) vH' → Ky (fun k => (Value.slice aH L.length cH).ownBlock = some k) (w1.alloc (.cells #[z.u, .int .i64 (i : Nat)] 120)) w2 → Mo wr (w2.setCell ⟨mg, 2, none⟩ vH') b y m mg B ks ((Yk.tick.read i rs).hold 1) op (L ++ [z]) F1) := fun w1 w2 F2 vH' z q1 q2 q3 q4 q5 q6 q7 =>
          Mw.push h1 h2 h3 h4 h5 h7 h8 h9' (F1 := fun k => F2 k ∧ k < w1.heap.size) (fun k e => q1 k e.1) q2.cut q3 (fun k e => e.2) q4 q5 q6 q7
        have HT3 := hide t3
        have HNI := hide hni
        have HXX := hide hx
        have nmH : ¬ (Value.slice aH L.length cH).ownBlock = some mg := fun e => (own_tg h8.1 e).ne h7.tg (by decide) rfl
        clear h3 h5 h6 h7 h8 h9' hit hcell t1 t1' t3 t3' hI hheld hni hx hlen
        go_wp2_with (first
          | (go_at_call 99; refine (unhide HC).mono ?_; rintro _ w1 ⟨v1, rfl, ⟨a1, c1, rfl, hq1, hl1⟩, F2, n2, m2, a3, a4⟩; have mq := unhide HM1 w1 a4; have mc := mq.1.c2; have HA := hide (below_alloc (Below.refl _ w1) (.cells #[.slice a1 (cleanR x).length c1, .int .i64 (i : Nat)] 120)); have HMQ := hide mq; have HRW : Hid (Rw (w1.alloc (.cells #[.slice a1 (cleanR x).length c1, .int .i64 (i : Nat)] 120)) (.slice a1 (cleanR x).length c1) (cleanR x)) := ⟨a1, c1, rfl, hq1.later (unhide HA), hl1⟩; have HN2 := hide n2; have HA3 := hide a3; have HA4 := hide a4; clear mq hq1 n2 m2 a3 a4)
          | (at_builtin; refine wpList_push_head (w1.alloc (.cells #[.slice a1 (cleanR x).length c1, .int .i64 (i : Nat)] 120)) rfl (.tmp 36) (.tmp 40) rfl (.slice aH L.length cH) L ⟨.slice a1 (cleanR x).length c1, cleanR x, i⟩ rfl ((unhide HMQ).2.later (unhide HA)) w1.heap.size rfl (by simp [go_sem]) (by simp [go_sem]) (unhide HRW) (unhide HLL) ?_; intro vH2 w2 hH2 gH2 kH2; obtain ⟨aN, cN, eN⟩ := own_form hH2.1; rw [List.length_append] at eN; change vH2 = .slice aN (L.length + 1) cN at eN; subst eN; have hM2 := ((unhide HMQ).1.later (unhide HA)).ky kH2 nmH; have r2 := hM2.c2; have rf2 := hM2.fr 2; have HMO := hide (unhide HPU w1 w2 F2 (.slice aN (L.length + 1) cN) ⟨.slice a1 (cleanR x).length c1, cleanR x, i⟩ (unhide HN2) (unhide HA3) (unhide HA4) (unhide HA) hH2 gH2 kH2); clear hH2 gH2 kH2 hM2))
        go_roundw
        case rel =>
          have hI := unhide HI
          obtain ⟨F3, b1, b2, b3, b4⟩ := unhide HMO
          refine ⟨k + 1, L ++ [⟨.slice a1 (cleanR x).length c1, cleanR x, i⟩], (Yk.tick.read i rs).hold 1, F3, by omega, by go_num, rfl, hI.nw.trans b1 hI.ky.size, fun j e => b2 j (hI.mono j e), b3, hI.ky.trans b4 hI.nw, hI.hid.ky b4 (fun j e => .inl e) b1, ?_⟩
          have := hI.opn.more (unhide HNI) (unhide HT3) (unhide HIT) (.slice a1 (cleanR x).length c1)
          rw [List.take_add_one, unhide HXX]
          exact this
        case measure => simp [intOf]; omega
      · have HC := hide (ynext_hit (i : Nat) h6 hI.opn.rd hit hcd1)
        have hcd' : (Yk.cd != 0) = true := by simpa using hcd1
        have HIT := hide hit
        have HF : Hid (∀ w', Yo wr w' b y m Yk.tick op F0 → Mo w w' b y m mg B ks Yk.tick op L F) := fun w' hY => by
          obtain ⟨F2, b1, b2, b3, b4⟩ := Mw.under h1 h2 h3 h4 h5 h7 h8 h9' hY
          exact ⟨F2, hI.nw.trans b1 hI.ky.size, fun j e => b2 j (hI.mono j e), b3, hI.ky.trans b4 hI.nw⟩
        clear h3 h5 h6 h7 h8 h9' hit hcell t1 t1' t3 t3' hI hheld hni hx
        go_wp2_with (first | (go_at_call 99; refine (unhide HC).mono ?_; rintro _ w1 ⟨rfl, hY⟩))
        go_ret
        exact ⟨Yk.tick, L, Yk.cd, rfl, unhide HF _ hY, .inr ⟨(unhide HI).opn.cd, k, L, Yk, hlt, (unhide HI).opn, unhide HIT, rfl⟩⟩
    · have h9 : ¬ (k : Int) < (ids.length : Int) := by omega
      have hke : k = ids.length := by omega
      obtain ⟨h1, h2, F0, vH, h3, h4, h5, h6, h7, h8, h9'⟩ := hI.mw
      obtain ⟨aH, cH, rfl⟩ : ∃ aH cH, vH = .slice aH L.length cH := by
        rcases h8.1.2 with ⟨rfl, h0⟩ | ⟨g, cap, cur, rfl, _⟩
        · exact ⟨none, 0, by rw [h0]⟩
        · exact ⟨_, _, rfl⟩
      rw [hlen] at h5 h7 h8
      have m2 := h7.c2
      have eq2 : IntKind.i64.wrap ((k : Int).tdiv 2) = ((k / 2 : Nat) : Int) := by rw [IntWalk.i64_quo _ _ (by omega)]; omega
      have ew : IntKind.i64.wrap (((k / 2 : Nat) : Int) - 1) = ((k / 2 : Nat) : Int) - 1 := IntWalk.i64_in _ (by omega)
      have HD : Hid (∃ L', L'.Perm L ∧ Hp ks (k / 2) L' ∧ Mw wr b y m mg B ks Yk op L' F1 ∧ Ky F1 wr wr) := ⟨L, List.Perm.refl _, fun j c q1 q2 q3 => by omega, hI.mw, Ky.refl _ _⟩
      have HLEN := hide hlen
      have HKE := hide hke
      rename World => wa
      clear h3 h5 h6 h7 h8 h9' hI hlen hke
      go_wp2_with fail
      go_loopw [11] (fun s11 wx => ∃ (j : Nat), j ≤ k / 2 ∧ s11 = .int .i64 ((j : Int) - 1) ∧ Hid (∃ L', L'.Perm L ∧ Hp ks j L' ∧ Mw wx b y m mg B ks Yk op L' F1 ∧ Ky F1 wa wx)) (fun s11 _ => ((intOf s11) + 1).toNat)
      case atStart => exact ⟨k / 2, Nat.le_refl _, rfl, HD⟩
      case round =>
        obtain ⟨j, hj, rfl, HE⟩ := hrel
        by_cases hj0 : j = 0
        · subst hj0
          go_wp2
          go_ret
          have hI := unhide HI
          obtain ⟨L', p1, p2, p3, p4⟩ := unhide HE
          have o := hI.opn
          rw [unhide HKE, List.take_length] at o
          exact ⟨Yk, L', 0, rfl, ⟨F1, hI.nw, hI.mono, p3, hI.ky.trans p4 hI.nw⟩, .inl ⟨rfl, p2, L, p1, o⟩⟩
        · obtain ⟨j', rfl⟩ : ∃ j', j = j' + 1 := ⟨j - 1, by omega⟩
          obtain ⟨L', p1, p2, p3, p4⟩ := unhide HE
          have hl' : L'.length = k := by rw [p1.length_eq]; exact unhide HLEN
          obtain ⟨q1, q2, G0, vG, q3, q4, q5, q6, q7, q8, q9⟩ := p3
          have HS := hide (settle_any (i := j') q7 q8 q9 (by omega) (by omega) p2)
          have ej : (((j' + 1 : Nat) : Int) - 1) = (j' : Int) := by omega
          have jge : (0 : Int) ≤ (j' : Int) := by omega
          have HQ : Hid (∀ w' L'', OwnH w' vG L'' → Ky (fun k => vG.ownBlock = some k) wr w' → Mw w' b y m mg B ks Yk op L'' F1 ∧ Ky F1 wa w') := fun w' L'' r1 r2 => ⟨Mw.settled q1 q2 q3 q4 q5 q6 q7 q8 q9 r1 r2, p4.trans (r2.mono (G := F1) fun k e => (q5 k e).1) (Nw.refl _ _)⟩
          have HP1 := hide p1
          rw [ej]
          have ew2 : IntKind.i64.wrap ((j' : Int) - 1) = (j' : Int) - 1 := IntWalk.i64_in _ (by omega)
          clear q3 q5 q6 q7 q8 q9 p1 p2 p4 hl'
          go_wp2_with (first | (go_at_call 100; refine (unhide HS).mono ?_; rintro _ w6 ⟨rfl, L'', r1, r2, r3, r4⟩))
          go_roundw
          case rel => exact ⟨j', by omega, rfl, L'', r1.trans (unhide HP1), r2, (unhide HQ _ _ r3 r4).1, (unhide HQ _ _ r3 r4).2⟩
          case measure => first | (simp [intOf]; done) | (simp [intOf]; omega)
end Go.Proofs.YtcbenpodohjbiaaGreat
set_option linter.unusedSimpArgs false
set_option linter.unusedVariables false
set_option maxRecDepth 100000
namespace Go.Proofs.YtcbenpodohjbiaaGreat
open Go.RowKit Go.Sort

/-- step, in what merge keeps. -/
theorem step_mi {F : Nat → Prop} {w : World} {b y m mg B : Nat} {ks : List (Int × Bool)} {Y Yk : Yv} {S op : Option Nat} {L : List Hd} {ids : List Nat} {BU : Nat} {O : List (List Val)} (h : Mw w b y m mg B ks Yk op L F) (hI : MI ks ids S BU Y Yk L O []) (hL : 0 < L.length) (hb : ids.length + 1 ≤ BU) (hb2 : BU ≤ 65536) (hrl : Y.runs.length ≤ 1048576) (hcd : Y.cd ≠ 0) (hop : ∀ i ∈ ids, op ≠ some i) (hS : ∀ i, S = some i → i ∉ ids) :
    Calls Tryz.prog 67 #[.pointer (some ⟨mg, 0, none⟩)] w fun e w' => ∃ (Y1 : Yv) (L' : List Hd) (c : Int), e = .returned (.int .i64 c) ∧ Mo w w' b y m mg B ks Y1 op L' F ∧ ((c = 0 ∧ MI ks ids S BU Y Y1 L' O [(hAt L 0).r]) ∨ (c = Y.cd ∧ Rfm ks ids S BU Y Y1)) := by
  obtain ⟨z1, z2, z3⟩ := hI.zero hL
  have hll := hI.ll
  have hhd := hI.held
  simp at hhd
  cases hit : Yk.hit
  · obtain ⟨R, hR⟩ : ∃ R, Yk.runs[(hAt L 0).i]? = some R := ⟨_, List.getElem?_eq_getElem z3⟩
    cases R with
    | nil =>
      refine (step_end (n := L.length - 1) h (by omega) (by omega) hI.heap (hop _ z1) z2 hR (by rw [hI.len]; exact hrl) hI.rd hit).mono ?_
      rintro _ w' ⟨rfl, L', p1, p2, p3⟩
      exact ⟨_, L', 0, rfl, p3, .inl ⟨rfl, hI.end_ hL hR p1 p2 hit hS⟩⟩
    | cons r rs =>
      refine (step_row h hL (by omega) hI.heap (hop _ z1) z2 hR (by rw [hI.len]; exact hrl) (by omega) (by omega) hI.rd hit).mono ?_
      rintro _ w' ⟨rfl, L', u, p1, p2, p3⟩
      exact ⟨_, L', 0, rfl, p3, .inl ⟨rfl, hI.row hL hb hR p1 p2 hit hS⟩⟩
  · refine (step_hit h hL hI.rd hit (by rw [hI.cd]; exact hcd)).mono ?_
    rintro _ w' ⟨rfl, p1⟩
    exact ⟨_, L, Yk.cd, rfl, p1, .inr ⟨hI.cd, hI.no (tick_hit hit).1 (tick_hit hit).2 rfl rfl rfl rfl rfl⟩⟩
theorem MI.tot {ks : List (Int × Bool)} {ids : List Nat} {S : Option Nat} {BU : Nat} {Y Yk : Yv} {L : List Hd} {O hand : List (List Val)} (h : MI ks ids S BU Y Yk L O hand) : O.length + hand.length ≤ (rowsOf Y.runs ids).length ∧ (Yk.out.length : Int) + Yk.puts = Y.out.length + Y.puts + O.length := by
  have h1 := h.perm.length_eq
  rw [List.length_append, List.length_append] at h1
  refine ⟨by omega, ?_⟩
  cases S with
  | none => obtain ⟨q1, q2⟩ := h.o rfl; rw [q1, q2, List.length_append]; omega
  | some i => obtain ⟨q1, _, q2⟩ := h.r i rfl; rw [q1, q2]; omega
/-- A sink takes a row, in what merge keeps. -/
theorem take_mi {F : Nat → Prop} {w : World} {b y m mg B : Nat} {ks : List (Int × Bool)} {Y Y1 : Yv} {S op : Option Nat} {L : List Hd} {ids : List Nat} {BU : Nat} {O : List (List Val)} {x : List Val} {u : Value} (h : Mw w b y m mg B ks Y1 op L F) (hI : MI ks ids S BU Y Y1 L O [x]) (hu : Rw w u x) (hb : ids.length + 1 ≤ BU) (hb2 : BU ≤ 65536) (hrl : Y.runs.length ≤ 1048576) (hcd : Y.cd ≠ 0) (hS : ∀ i, S = some i → op = some i ∧ i ∉ ids ∧ Y.there[i]? = some true) (ht : (rowsOf Y.runs ids).length ≤ 1048576) (hout : Y.out.length + (rowsOf Y.runs ids).length ≤ 1048577) (hp0 : 0 ≤ Y.puts) (hp1 : Y.puts + (rowsOf Y.runs ids).length ≤ 1099511627776) :
    Calls Tryz.prog (snkF S) #[snkA b y S, u] w fun e w' => ∃ (Y2 : Yv) (c : Int), e = .returned (.int .i64 c) ∧ Mo w w' b y m mg B ks Y2 op L F ∧ ((c = 0 ∧ MI ks ids S BU Y Y2 L (O ++ [x]) []) ∨ (c = Y.cd ∧ Rfm ks ids S BU Y Y2)) := by
  obtain ⟨h1, h2, F0, vH, h3, h4, h5, h6, h7, h8, h9⟩ := h
  have hhd := hI.held
  have hll := hI.ll
  obtain ⟨t1, t2⟩ := hI.tot
  simp only [List.length_cons, List.length_nil] at hhd t1
  have hcd1 : Y1.cd ≠ 0 := by rw [hI.cd]; exact hcd
  have hsk : SnkOk S op Y1 (0 + 1) := by
    refine ⟨hI.rd, by omega, by omega, hI.hm, by rw [hI.len]; exact hrl, fun e => ?_, fun i e => ?_⟩
    · rw [(hI.o e).1, List.length_append]; omega
    · obtain ⟨q1, q2, q3⟩ := hS i e
      obtain ⟨r1, r2, r3⟩ := hI.r i e
      exact ⟨q1, by rw [hI.oth i q2]; exact q3, ⟨O, r2, by omega⟩, by rw [r3]; omega, by rw [r3]; omega⟩
  refine (stake (n := 0) h6 hu hsk (.inl hcd1)).mono ?_
  rintro _ w' ⟨Y2, c, rfl, hY, hc⟩
  refine ⟨Y2, c, rfl, Mw.under h1 h2 h3 h4 h5 h7 h8 h9 hY, ?_⟩
  rcases hc with ⟨p1, p2, p3, p4⟩ | ⟨p1, p2, p3, p4, p5⟩
  · exact .inl ⟨p1, hI.take p2 p3.rd (fun i e => (hS i e).2.1)⟩
  · refine .inr ⟨by rw [p1, hI.cd], hI.no p4 p5 p3.rf p3.cd p3.most ?_ ?_⟩
    · cases S with
      | none => rw [(p3.o rfl).1, List.append_nil]
      | some i => exact (p3.r i rfl).1
    · cases S with
      | none => rw [(p3.o rfl).2.1]
      | some i => rw [(p3.r i rfl).2.1 O (hI.r i rfl).2.1, List.length_set]
/-- open, in what merge keeps. -/
theorem open_mi {F : Nat → Prop} {w : World} {b y m mg B : Nat} {ks : List (Int × Bool)} {Y : Yv} {S op : Option Nat} {a : Option Addr} {c : Nat} {ids : List Nat} {BU : Nat} (h : Mw w b y m mg B ks Y op [] F) (hids : IdsK w F a ids) (hnd : ids.Nodup) (hb : ids.length + 1 ≤ BU) (hb2 : BU ≤ 65536) (hrl : Y.runs.length ≤ 1048576) (h0 : Y.held = 0) (hm : Y.most ≤ BU) (hm0 : 0 ≤ Y.most) (hrd : Y.rd = false) (hcd : Y.cd ≠ 0) (hth : ∀ i ∈ ids, Y.there[i]? = some true ∧ op ≠ some i ∧ ∃ x rs, Y.runs[i]? = some (x :: rs))
    (hs : ∀ i ∈ ids, (Y.runs.getD i []).Pairwise fun x y => ordG ks x y ≤ 0) (hc : ∀ i ∈ ids, ∀ x ∈ Y.runs.getD i [], cleanR x = x) (hS : ∀ i, S = some i → i ∉ ids ∧ Y.runs[i]? = some []) :
    Calls Tryz.prog 66 #[.pointer (some ⟨mg, 0, none⟩), .slice a ids.length c] w fun e w' => ∃ (Y1 : Yv) (L : List Hd) (c : Int), e = .returned (.int .i64 c) ∧ Mo w w' b y m mg B ks Y1 op L F ∧ ((c = 0 ∧ MI ks ids S BU Y Y1 L [] []) ∨ (c = Y.cd ∧ Rfm ks ids S BU Y Y1)) := by
  refine (open_any h hids hnd (by omega) hrl (by omega) (by omega) hrd hcd hth).mono ?_
  rintro _ w' ⟨Y', L, c, rfl, hM, hc'⟩
  refine ⟨Y', L, c, rfl, hM, ?_⟩
  rcases hc' with ⟨p1, p2, L0, p3, p4⟩ | ⟨p1, k, L0, Yk, p2, p3, p4, rfl⟩
  · exact .inl ⟨p1, MI.start p4 p3 p2 hnd hb h0 hm hm0 (fun i hi => (hth i hi).1) hs hc hS⟩
  · refine .inr ⟨p1, (tick_hit p4).1, (tick_hit p4).2, p3.rf, p3.cd, ?_, p3.len, [], rowsOf Y.runs ids, by rw [List.append_nil]; exact p3.out, by simp, by simp, by simp, fun _ _ => rfl⟩
    show Yk.most ≤ _
    rw [p3.most, h0, List.length_take]
    split <;> omega
theorem Yw.meas {F : Nat → Prop} {w : World} {b y m : Nat} {Y : Yv} {op : Option Nat} (h : Yw w b y m Y op F) : ∃ aO cO, w.cell? ⟨b, 3, none⟩ = some (.slice aO Y.out.length cO) ∧ w.cell? ⟨b, 2, none⟩ = some (.int .i64 Y.puts) := by
  obtain ⟨_, _, _, _, _, _, ⟨_, vO, vR, vT, us, hB, hl⟩, _⟩ := h
  obtain ⟨a, c, e⟩ := hl.o.form
  subst e
  exact ⟨a, c, hB.c3, hB.c2⟩
end Go.Proofs.YtcbenpodohjbiaaGreat

import Derived.Test.YtcbenpodohjbiaaGreatSqD
import Derived.Test.YtcbenpodohjbiaaGreatSqC
import Derived.Test.YtcbenpodohjbiaaGreatSpZ
import Derived.Test.YtcbenpodohjbiaaGreatStU
import Derived.Test.YtcbenpodohjbiaaGreatSqI
import Derived.Test.YtcbenpodohjbiaaGreatSpE
set_option linter.unusedSimpArgs false
set_option linter.unusedVariables false
set_option maxRecDepth 100000
namespace Go.Proofs.YtcbenpodohjbiaaGreat
open Go.RowKit Go.Sort

theorem info120 : (Tryz.prog.info? 120).map (fun i => (i.zero, i.size, i.bytes)) = some (some (.agg #[.slice none 0 0, .int .i64 0]), 2, 32) := by kernel_rfl
/-- append of a head, in a list of one that was made for it. -/
theorem wpList_push_head {ops : Array Oper} {rest : List Oper} {o : Oper} {a : Act} {Q : Exit → Act → World → Prop} (w : World) (hgd : o.guard = none) (s x : Operand) (ho : o.op = .call { callee := .builtin .append, args := #[s, x], argTypes := #[115, 115] })
    (v : Value) (L : List Hd) (z : Hd) (hs : a.eval s = v) (hown : OwnH w v L) (t : Nat) (hx : a.eval x = .slice (some ⟨t, 0, none⟩) 1 1) (hy : w.cell? ⟨t, 0, none⟩ = some z.u) (hy1 : w.cell? ⟨t, 1, none⟩ = some (.int .i64 (z.i : Nat))) (hrw : Rw w z.u z.r) (hl : L.length + 1 ≤ 4194304)
    (h : ∀ v' w', OwnH w' v' (L ++ [z]) → Grew w w' v v' → Ky (fun k => v.ownBlock = some k) w w' → wpList Tryz.prog ops Q rest (a.put o.dst v') w') : wpList Tryz.prog ops Q (o :: rest) a w := by
  obtain ⟨i4, hi4, z40, z41, z42⟩ := info_parts info120
  refine wpList_append_own_at w hgd s x 115 ho 0 120 i4 (.agg #[.slice none 0 0, .int .i64 0]) 2 32 Tryz.underlying115 hi4 z40 z41 z42 rfl (by decide) v L.length (L.flatMap hc2) hs hown.1 ⟨t, 0, none⟩ 1 1 (hc2 z) hx rfl (fun j y hj => by
    match j, hj with
    | 0, hj => simp [hc2] at hj; subst hj; simpa [Addr.add] using hy
    | 1, hj => simp [hc2] at hj; subst hj; simpa [Addr.add] using hy1
    | j + 2, hj => simp [hc2] at hj) (fun y hy => by simp [hc2] at hy; rcases hy with rfl | rfl; exact hrw.one; rfl) (by unfold maxLen; omega) (by omega) (Nat.zero_le _) ?_
  intro v' w' k1 k2 _ k4
  have hky : Ky (fun k => v.ownBlock = some k) w w' := Ky.of_grown k2 (fun g e => e) (fun g t e hc q => (own_tg hown.1 e).ne q (by rintro rfl; revert hc; decide) rfl)
  refine h v' w' ⟨?_, fun y hy => ?_⟩ ⟨k2, k4.imp id fun e => ⟨_, e, Nat.le_refl _⟩⟩ hky
  · rw [List.length_append, List.flatMap_append]
    have e : List.flatMap hc2 [z] = hc2 z := by simp
    rw [e]
    exact k1
  · rcases List.mem_append.1 hy with q | q
    · exact (hown.2 y q).ky hky
    · simp at q; subst q; exact hrw.ky hky
/-- What open has done: of each of these runs the first row is a head. -/
structure Opn (ids : List Nat) (L : List Hd) (Y Y' : Yv) : Prop where
  rd : Y'.rd = false
  rf : Y'.rf = Y.rf
  cd : Y'.cd = Y.cd
  out : Y'.out = Y.out
  there : Y'.there = Y.there
  puts : Y'.puts = Y.puts
  held : Y'.held = Y.held + ids.length
  most : Y'.most = if Y.most < Y.held + ids.length ∧ ids ≠ [] then Y.held + ids.length else Y.most
  len : Y'.runs.length = Y.runs.length
  hids : L.map Hd.i = ids
  oth : ∀ j, j ∉ ids → Y'.runs[j]? = Y.runs[j]?
  each : ∀ h ∈ L, ∃ x rs, Y.runs[h.i]? = some (x :: rs) ∧ h.r = cleanR x ∧ Y'.runs[h.i]? = some rs
theorem Opn.start {Y : Yv} (h : Y.rd = false) : Opn [] [] Y Y := ⟨h, rfl, rfl, rfl, rfl, rfl, by simp, by simp, rfl, rfl, fun _ _ => rfl, fun _ h => by simp at h⟩
theorem Opn.more {ids : List Nat} {L : List Hd} {Y Y1 : Yv} {i : Nat} {x : List Val} {rs : List (List Val)} (h : Opn ids L Y Y1) (hi : i ∉ ids) (hr : Y.runs[i]? = some (x :: rs)) (hh : Y1.hit = false) (u : Value) : Opn (ids ++ [i]) (L ++ [⟨u, cleanR x, i⟩]) Y ((Y1.tick.read i rs).hold 1) := by
  have hil : i < Y.runs.length := (List.getElem?_eq_some_iff.1 hr).1
  have e1 : ((Y1.tick.read i rs).hold 1).runs = Y1.runs.set i rs := rfl
  have hm := h.most
  have hd := h.held
  refine ⟨hh, h.rf, h.cd, h.out, h.there, h.puts, ?_, ?_, by rw [e1, List.length_set]; exact h.len, by rw [List.map_append, h.hids]; rfl, fun j hj => ?_, fun y hy => ?_⟩
  · show Y1.held + 1 = _
    rw [hd, List.length_append]; simp; omega
  · show (if Y1.held + 1 > Y1.most then Y1.held + 1 else Y1.most) = _
    rw [hd, hm, List.length_append]
    simp only [List.length_singleton]
    by_cases c1 : Y.most < Y.held + (ids.length : Int) ∧ ids ≠ []
    · rw [if_pos c1, if_pos (by omega), if_pos ⟨by have := c1.1; omega, by simp⟩]; omega
    · rw [if_neg c1]
      by_cases c2 : Y.held + (ids.length : Int) + 1 > Y.most
      · rw [if_pos c2, if_pos ⟨by omega, by simp⟩]; omega
      · rw [if_neg c2, if_neg (by rintro ⟨q, _⟩; omega)]
  · rw [e1, List.getElem?_set, if_neg (by rintro rfl; exact hj (by simp))]
    exact h.oth j (fun q => hj (by simp [q]))
  · rcases List.mem_append.1 hy with q | q
    · obtain ⟨x', rs', p1, p2, p3⟩ := h.each y q
      refine ⟨x', rs', p1, p2, ?_⟩
      rw [e1, List.getElem?_set, if_neg (by rintro rfl; exact hi (by rw [← h.hids]; exact List.mem_map.2 ⟨y, q, rfl⟩))]
      exact p3
    · simp at q
      subst q
      refine ⟨x, rs, hr, rfl, ?_⟩
      rw [e1, List.getElem?_set, if_pos rfl, if_pos (by rw [h.len]; exact hil)]
end Go.Proofs.YtcbenpodohjbiaaGreat
set_option linter.unusedSimpArgs false
set_option linter.unusedVariables false
namespace Go.Proofs.YtcbenpodohjbiaaGreat

/-- The rows of these runs. -/
def rowsOf (R : List (List (List Val))) (ids : List Nat) : List (List Val) := ids.flatMap fun i => R.getD i []
theorem getD_of {R : List (List (List Val))} {i : Nat} {x : List (List Val)} (h : R[i]? = some x) : R.getD i [] = x := by rw [List.getD_eq_getElem?_getD, h]; rfl
theorem Opn.whole {ids : List Nat} {L : List Hd} {Y Y' : Yv} (h : Opn ids L Y Y') (hc : ∀ i ∈ ids, ∀ x ∈ Y.runs.getD i [], cleanR x = x) : ∀ z ∈ L, z.r :: Y'.runs.getD z.i [] = Y.runs.getD z.i [] := fun z hz => by
  obtain ⟨x, rs, p1, p2, p3⟩ := h.each z hz
  have hi : z.i ∈ ids := by rw [← h.hids]; exact List.mem_map.2 ⟨z, hz, rfl⟩
  have e1 := getD_of p1
  have hx := hc z.i hi x (by rw [e1]; simp)
  rw [getD_of p3, e1, p2, hx]
theorem Opn.rest {ids : List Nat} {L : List Hd} {Y Y' : Yv} (h : Opn ids L Y Y') (hc : ∀ i ∈ ids, ∀ x ∈ Y.runs.getD i [], cleanR x = x) : restR Y'.runs L = rowsOf Y.runs ids := by
  have hw := h.whole hc
  have hi := h.hids
  unfold restR rowsOf
  rw [← hi, List.flatMap_def, List.map_map]
  congr 1
  exact List.map_congr_left hw
theorem Opn.keeps {ks : List (Int × Bool)} {ids : List Nat} {L : List Hd} {Y Y' : Yv} (h : Opn ids L Y Y') (hnd : ids.Nodup) (hs : ∀ i ∈ ids, (Y.runs.getD i []).Pairwise fun x y => ordG ks x y ≤ 0) (hc : ∀ i ∈ ids, ∀ x ∈ Y.runs.getD i [], cleanR x = x) : Mk ks Y'.runs L := by
  have hm : ∀ z ∈ L, z.i ∈ ids := fun z hz => by rw [← h.hids]; exact List.mem_map.2 ⟨z, hz, rfl⟩
  refine ⟨by rw [h.hids]; exact hnd, fun z hz => ?_, fun z hz => ?_, fun z hz x hx => ?_⟩
  · obtain ⟨x, rs, p1, p2, p3⟩ := h.each z hz
    exact (List.getElem?_eq_some_iff.1 p3).1
  · rw [h.whole hc z hz]
    exact hs z.i (hm z hz)
  · refine hc z.i (hm z hz) x ?_
    rw [← h.whole hc z hz]
    exact List.mem_cons_of_mem _ hx
theorem Mk.cong {ks : List (Int × Bool)} {R R' : List (List (List Val))} {L : List Hd} (h : Mk ks R L) (hl : R'.length = R.length) (he : ∀ z ∈ L, R'.getD z.i [] = R.getD z.i []) : Mk ks R' L :=
  ⟨h.once, fun z hz => by rw [hl]; exact h.lt z hz, fun z hz => by rw [he z hz]; exact h.sort z hz, fun z hz x hx => h.clean z hz x (by rw [← he z hz]; exact hx)⟩
theorem restR_cong {R R' : List (List (List Val))} {L : List Hd} (he : ∀ z ∈ L, R'.getD z.i [] = R.getD z.i []) : restR R' L = restR R L := by
  unfold restR
  congr 1
  exact List.map_congr_left fun z hz => by rw [he z hz]
/-- What merge has done: O has gone into the sink, hand is on its way. -/
structure MI (ks : List (Int × Bool)) (ids : List Nat) (S : Option Nat) (BU : Nat) (Y Yk : Yv) (L : List Hd) (O hand : List (List Val)) : Prop where
  rd : Yk.rd = false
  rf : Yk.rf = Y.rf
  cd : Yk.cd = Y.cd
  held : Yk.held = (L.length : Int) + hand.length
  most : Yk.most ≤ BU
  hm : Yk.held ≤ Yk.most
  len : Yk.runs.length = Y.runs.length
  ll : L.length ≤ ids.length
  sub : ∀ z ∈ L, z.i ∈ ids
  thr : ∀ z ∈ L, Yk.there[z.i]? = some true
  oth : ∀ j, j ∉ ids → Yk.there[j]? = Y.there[j]?
  off : ∀ j ∈ ids, j ∉ L.map Hd.i → Yk.there[j]? = some false
  mks : Mk ks Yk.runs L
  heap : Hp ks 0 L
  perm : (O ++ hand ++ restR Yk.runs L).Perm (rowsOf Y.runs ids)
  srt : (O ++ hand).Pairwise fun x y => ordG ks x y ≤ 0
  crs : ∀ x ∈ O ++ hand, ∀ z ∈ restR Yk.runs L, ordG ks x z ≤ 0
  keep : ∀ j, j ∉ ids → S ≠ some j → Yk.runs[j]? = Y.runs[j]?
  o : S = none → Yk.out = Y.out ++ O ∧ Yk.puts = Y.puts
  r : ∀ i, S = some i → Yk.out = Y.out ∧ Yk.runs[i]? = some O ∧ Yk.puts = Y.puts + O.length
theorem MI.start {ks : List (Int × Bool)} {ids : List Nat} {S : Option Nat} {BU : Nat} {Y Yk : Yv} {L L0 : List Hd} (h : Opn ids L0 Y Yk) (hL : L.Perm L0) (hp : Hp ks 0 L) (hnd : ids.Nodup) (hb : ids.length + 1 ≤ BU) (h0 : Y.held = 0) (hm : Y.most ≤ BU) (hm0 : 0 ≤ Y.most) (hth : ∀ i ∈ ids, Y.there[i]? = some true) (hs : ∀ i ∈ ids, (Y.runs.getD i []).Pairwise fun x y => ordG ks x y ≤ 0) (hc : ∀ i ∈ ids, ∀ x ∈ Y.runs.getD i [], cleanR x = x) (hS : ∀ i, S = some i → i ∉ ids ∧ Y.runs[i]? = some []) : MI ks ids S BU Y Yk L [] [] := by
  have hll : L.length = ids.length := by rw [hL.length_eq, ← h.hids, List.length_map]
  have hmi : (L.map Hd.i).Perm ids := by rw [← h.hids]; exact hL.map _
  have hmo := h.most
  rw [h0] at hmo
  have hhe := h.held
  rw [h0] at hhe
  refine ⟨h.rd, h.rf, h.cd, by rw [hhe, hll]; simp, ?_, ?_, h.len, by omega, fun z hz => hmi.mem_iff.1 (List.mem_map.2 ⟨z, hz, rfl⟩), fun z hz => ?_, fun j _ => by rw [h.there], fun j hj hn => absurd (hmi.mem_iff.2 hj) hn, (h.keeps hnd hs hc).perm hL, hp, ?_, by simp, by simp, fun j hj _ => h.oth j hj, fun _ => ⟨by rw [h.out]; simp, h.puts⟩, fun i hi => ⟨h.out, ?_, by rw [h.puts]; simp⟩⟩
  · rw [hmo]; split <;> omega
  · rw [hmo, hhe]
    split
    · omega
    · rename_i q
      by_cases e : ids = []
      · subst e; simpa using hm0
      · have : ¬ Y.most < 0 + (ids.length : Int) := fun z => q ⟨z, e⟩
        omega
  · rw [h.there]; exact hth z.i (hmi.mem_iff.1 (List.mem_map.2 ⟨z, hz, rfl⟩))
  · rw [List.append_nil, List.nil_append, ← h.rest hc]
    exact restR_perm hL
  · rw [h.oth i (hS i hi).1]; exact (hS i hi).2
theorem head_tail {L : List Hd} (h : 0 < L.length) : L = hAt L 0 :: L.tail := by
  cases L with
  | nil => simp at h
  | cons x t => rfl
theorem MI.zero {ks : List (Int × Bool)} {ids : List Nat} {S : Option Nat} {BU : Nat} {Y Yk : Yv} {L : List Hd} {O hand : List (List Val)} (h : MI ks ids S BU Y Yk L O hand) (hL : 0 < L.length) : (hAt L 0).i ∈ ids ∧ Yk.there[(hAt L 0).i]? = some true ∧ (hAt L 0).i < Yk.runs.length :=
  ⟨h.sub _ (hAt_mem hL), h.thr _ (hAt_mem hL), h.mks.lt _ (hAt_mem hL)⟩
theorem MI.step {ks : List (Int × Bool)} {ids : List Nat} {S : Option Nat} {BU : Nat} {Y Yk : Yv} {L L' : List Hd} {O : List (List Val)} {rs : List (List Val)} (h : MI ks ids S BU Y Yk L O []) (hL : 0 < L.length)
    (hmk : Mk ks (Yk.runs.set (hAt L 0).i rs) L') (hpm : (restR Yk.runs L).Perm ((hAt L 0).r :: restR (Yk.runs.set (hAt L 0).i rs) L')) :
    (O ++ [(hAt L 0).r] ++ restR (Yk.runs.set (hAt L 0).i rs) L').Perm (rowsOf Y.runs ids) ∧ (O ++ [(hAt L 0).r]).Pairwise (fun x y => ordG ks x y ≤ 0) ∧ (∀ x ∈ O ++ [(hAt L 0).r], ∀ z ∈ restR (Yk.runs.set (hAt L 0).i rs) L', ordG ks x z ≤ 0) := by
  have hx0 : (hAt L 0).r ∈ restR Yk.runs L := hpm.mem_iff.2 (by simp)
  have hz : ∀ z ∈ restR (Yk.runs.set (hAt L 0).i rs) L', z ∈ restR Yk.runs L := fun z hz => hpm.mem_iff.2 (by simp [hz])
  have hc := h.crs
  have hs := h.srt
  have hp := h.perm
  simp only [List.append_nil] at hc hs hp
  refine ⟨?_, ?_, fun x hx z hz' => ?_⟩
  · refine List.Perm.trans ?_ hp
    rw [List.append_assoc]
    exact (List.Perm.append (List.Perm.refl _) hpm.symm)
  · rw [List.pairwise_append]
    refine ⟨hs, by simp, fun x hx y hy => ?_⟩
    simp at hy
    subst hy
    exact hc x hx _ hx0
  · rcases List.mem_append.1 hx with q | q
    · exact hc x q z (hz z hz')
    · simp at q
      subst q
      exact h.mks.min h.heap z (hz z hz')
theorem MI.row {ks : List (Int × Bool)} {ids : List Nat} {S : Option Nat} {BU : Nat} {Y Yk : Yv} {L L' : List Hd} {O : List (List Val)} {u : Value} {r : List Val} {rs : List (List Val)} (h : MI ks ids S BU Y Yk L O []) (hL : 0 < L.length) (hb : ids.length + 1 ≤ BU) (hr : Yk.runs[(hAt L 0).i]? = some (r :: rs)) (hp : L'.Perm (⟨u, cleanR r, (hAt L 0).i⟩ :: L.tail)) (hh : Hp ks 0 L') (hit : Yk.hit = false) (hS : ∀ i, S = some i → i ∉ ids) : MI ks ids S BU Y ((Yk.tick.read (hAt L 0).i rs).hold 1) L' O [(hAt L 0).r] := by
  obtain ⟨m1, m2, m3⟩ := h.mks.row hL hr hp
  obtain ⟨p1, p2, p3⟩ := h.step hL m1 m2
  obtain ⟨z1, z2, z3⟩ := h.zero hL
  have hhd := h.held
  have hmo := h.most
  have hhm := h.hm
  have hll := h.ll
  have eL := head_tail hL
  have hmap : (L'.map Hd.i).Perm (L.map Hd.i) := by
    have := hp.map Hd.i
    rw [List.map_cons] at this
    rw [eL, List.map_cons]
    exact this
  have hsub : ∀ z ∈ L', z.i ∈ ids ∧ Yk.there[z.i]? = some true := fun z hz => by
    rcases List.mem_cons.1 (hp.mem_iff.1 hz) with q | q
    · subst q; exact ⟨z1, z2⟩
    · have : z ∈ L := by rw [eL]; exact List.mem_cons_of_mem _ q
      exact ⟨h.sub z this, h.thr z this⟩
  have e1 : ((Yk.tick.read (hAt L 0).i rs).hold 1).held = Yk.held + 1 := rfl
  have e2 : ((Yk.tick.read (hAt L 0).i rs).hold 1).most = if Yk.held + 1 > Yk.most then Yk.held + 1 else Yk.most := rfl
  have hne : ∀ j, j ∉ ids → (hAt L 0).i ≠ j := fun j hj e => hj (e ▸ z1)
  refine ⟨hit, h.rf, h.cd, by rw [e1, hhd, m3]; simp, ?_, ?_, ?_, by omega, fun z hz => (hsub z hz).1, fun z hz => (hsub z hz).2, h.oth, fun j hj hn => h.off j hj (fun q => hn (hmap.mem_iff.2 q)), m1, hh, p1, p2, p3, fun j hj hs => ?_, h.o, fun i hi => ⟨(h.r i hi).1, ?_, (h.r i hi).2.2⟩⟩
  · rw [e2]; simp at hhd; split <;> omega
  · rw [e1, e2]; split <;> omega
  · show (Yk.runs.set (hAt L 0).i rs).length = _; rw [List.length_set]; exact h.len
  · show (Yk.runs.set (hAt L 0).i rs)[j]? = _
    rw [List.getElem?_set, if_neg (hne j hj)]
    exact h.keep j hj hs
  · show (Yk.runs.set (hAt L 0).i rs)[i]? = _
    rw [List.getElem?_set, if_neg (hne i (hS i hi))]
    exact (h.r i hi).2.1
theorem MI.end_ {ks : List (Int × Bool)} {ids : List Nat} {S : Option Nat} {BU : Nat} {Y Yk : Yv} {L L' : List Hd} {O : List (List Val)} (h : MI ks ids S BU Y Yk L O []) (hL : 0 < L.length) (hr : Yk.runs[(hAt L 0).i]? = some []) (hp : L'.Perm L.tail) (hh : Hp ks 0 L') (hit : Yk.hit = false) (hS : ∀ i, S = some i → i ∉ ids) : MI ks ids S BU Y (Yk.tick.drop (hAt L 0).i) L' O [(hAt L 0).r] := by
  obtain ⟨m1, m2, m3⟩ := h.mks.end_ hL hr hp
  obtain ⟨p1, p2, p3⟩ := h.step hL m1 m2
  obtain ⟨z1, z2, z3⟩ := h.zero hL
  have hhd := h.held
  have hll := h.ll
  have eL := head_tail hL
  have hnd := h.mks.once
  rw [eL, List.map_cons, List.nodup_cons] at hnd
  have hmap : (L'.map Hd.i).Perm (L.tail.map Hd.i) := hp.map Hd.i
  have hne : ∀ j, j ∉ ids → (hAt L 0).i ≠ j := fun j hj e => hj (e ▸ z1)
  have htl : (hAt L 0).i < Yk.there.length := (List.getElem?_eq_some_iff.1 z2).1
  have e1 : (Yk.tick.drop (hAt L 0).i).there = Yk.there.set (hAt L 0).i false := rfl
  have hsub : ∀ z ∈ L', z.i ∈ ids ∧ (Yk.tick.drop (hAt L 0).i).there[z.i]? = some true := fun z hz => by
    have q := hp.mem_iff.1 hz
    have hzL : z ∈ L := by rw [eL]; exact List.mem_cons_of_mem _ q
    refine ⟨h.sub z hzL, ?_⟩
    rw [e1, List.getElem?_set, if_neg (fun e => hnd.1 (by rw [e]; exact List.mem_map.2 ⟨z, q, rfl⟩))]
    exact h.thr z hzL
  refine ⟨hit, h.rf, h.cd, ?_, h.most, h.hm, ?_, by omega, fun z hz => (hsub z hz).1, fun z hz => (hsub z hz).2, fun j hj => ?_, fun j hj hn => ?_, m1, hh, p1, p2, p3, fun j hj hs => ?_, h.o, fun i hi => ⟨(h.r i hi).1, ?_, (h.r i hi).2.2⟩⟩
  · show Yk.held = _
    rw [hhd]; simp; omega
  · show (Yk.runs.set (hAt L 0).i []).length = _; rw [List.length_set]; exact h.len
  · rw [e1, List.getElem?_set, if_neg (hne j hj)]
    exact h.oth j hj
  · rw [e1, List.getElem?_set]
    by_cases e : (hAt L 0).i = j
    · rw [if_pos e, if_pos htl]
    · rw [if_neg e]
      refine h.off j hj (fun q => ?_)
      rw [eL, List.map_cons] at q
      rcases List.mem_cons.1 q with q | q
      · exact e q.symm
      · exact hn (hmap.mem_iff.2 q)
  · show (Yk.runs.set (hAt L 0).i [])[j]? = _
    rw [List.getElem?_set, if_neg (hne j hj)]
    exact h.keep j hj hs
  · show (Yk.runs.set (hAt L 0).i [])[i]? = _
    rw [List.getElem?_set, if_neg (hne i (hS i hi))]
    exact (h.r i hi).2.1
theorem MI.take {ks : List (Int × Bool)} {ids : List Nat} {S : Option Nat} {BU : Nat} {Y Y1 Y2 : Yv} {L : List Hd} {O : List (List Val)} {x : List Val} (h : MI ks ids S BU Y Y1 L O [x]) (hm : Mv S [x] Y1 Y2) (hrd : Y2.rd = false) (hS : ∀ i, S = some i → i ∉ ids) : MI ks ids S BU Y Y2 L (O ++ [x]) [] := by
  have hhd := h.held
  have hhm := h.hm
  have e1 := hm.held
  have hrun : Y2.runs.length = Y1.runs.length ∧ ∀ j, S ≠ some j → Y2.runs[j]? = Y1.runs[j]? := by
    cases S with
    | none => rw [(hm.o rfl).2.1]; exact ⟨rfl, fun _ _ => rfl⟩
    | some i =>
      rw [(hm.r i rfl).2.1 O (h.r i rfl).2.1]
      refine ⟨by rw [List.length_set], fun j hj => ?_⟩
      rw [List.getElem?_set, if_neg (fun e => hj (by rw [e]))]
  have hgd : ∀ z ∈ L, Y2.runs.getD z.i [] = Y1.runs.getD z.i [] := fun z hz => by
    rw [List.getD_eq_getElem?_getD, List.getD_eq_getElem?_getD, hrun.2 z.i (fun e => hS z.i e (h.sub z hz))]
  have hrest := restR_cong hgd
  have hp := h.perm
  have hs := h.srt
  have hc := h.crs
  refine ⟨hrd, hm.rf.trans h.rf, hm.cd.trans h.cd, ?_, by rw [hm.most]; exact h.most, ?_, hrun.1.trans h.len, h.ll, h.sub, fun z hz => by rw [hm.there]; exact h.thr z hz, fun j hj => by rw [hm.there]; exact h.oth j hj, fun j hj hn => by rw [hm.there]; exact h.off j hj hn, h.mks.cong hrun.1 hgd, h.heap, by rw [hrest, List.append_nil]; exact hp, by rw [List.append_nil]; exact hs, by rw [hrest, List.append_nil]; exact hc, fun j hj hn => (hrun.2 j hn).trans (h.keep j hj hn), fun e => ?_, fun i e => ?_⟩
  · rw [e1, hhd]; simp
  · rw [hm.most, e1]; simp; omega
  · obtain ⟨q1, q2, q3⟩ := hm.o e
    obtain ⟨r1, r2⟩ := h.o e
    exact ⟨by rw [q1, r1, List.append_assoc], q3.trans r2⟩
  · obtain ⟨q1, q2, q3⟩ := hm.r i e
    obtain ⟨r1, r2, r3⟩ := h.r i e
    have hil : i < Y1.runs.length := (List.getElem?_eq_some_iff.1 r2).1
    refine ⟨q1.trans r1, ?_, by rw [q3, r3]; simp; omega⟩
    rw [q2 O r2, List.getElem?_set, if_pos rfl, if_pos hil]
/-- A merge was refused. -/
structure Rfm (ks : List (Int × Bool)) (ids : List Nat) (S : Option Nat) (BU : Nat) (Y Y' : Yv) : Prop where
  rd : Y'.rd = true
  calls : Y'.calls = Y'.rf
  rf : Y'.rf = Y.rf
  cd : Y'.cd = Y.cd
  most : Y'.most ≤ BU
  runs : Y'.runs.length = Y.runs.length
  out : ∃ O R, Y'.out = Y.out ++ O ∧ (O ++ R).Perm (rowsOf Y.runs ids) ∧ O.Pairwise (fun x y => ordG ks x y ≤ 0) ∧ (∀ x ∈ O, ∀ z ∈ R, ordG ks x z ≤ 0) ∧ ∀ i, S = some i → O = []
theorem MI.no {ks : List (Int × Bool)} {ids : List Nat} {S : Option Nat} {BU : Nat} {Y Yk Y' : Yv} {L : List Hd} {O hand : List (List Val)} (h : MI ks ids S BU Y Yk L O hand) (h1 : Y'.rd = true) (h2 : Y'.calls = Y'.rf) (h3 : Y'.rf = Yk.rf) (h4 : Y'.cd = Yk.cd) (h5 : Y'.most = Yk.most) (h6 : Y'.out = Yk.out) (h7 : Y'.runs.length = Yk.runs.length) : Rfm ks ids S BU Y Y' := by
  refine ⟨h1, h2, h3.trans h.rf, h4.trans h.cd, by rw [h5]; exact h.most, h7.trans h.len, ?_⟩
  cases S with
  | none =>
    refine ⟨O, hand ++ restR Yk.runs L, by rw [h6]; exact (h.o rfl).1, by rw [← List.append_assoc]; exact h.perm, (List.pairwise_append.1 h.srt).1, fun x hx z hz => ?_, fun i e => by cases e⟩
    rcases List.mem_append.1 hz with q | q
    · exact (List.pairwise_append.1 h.srt).2.2 x hx z q
    · exact h.crs x (by simp [hx]) z q
  | some i => exact ⟨[], rowsOf Y.runs ids, by rw [h6, (h.r i rfl).1]; simp, by simp, by simp, by simp, fun _ _ => rfl⟩
theorem MI.done {ks : List (Int × Bool)} {ids : List Nat} {S : Option Nat} {BU : Nat} {Y Yk : Yv} {O : List (List Val)} (h : MI ks ids S BU Y Yk [] O []) : O.Perm (rowsOf Y.runs ids) ∧ O.Pairwise (fun x y => ordG ks x y ≤ 0) := by
  have hp := h.perm
  have hs := h.srt
  simp only [List.append_nil] at hs hp
  refine ⟨?_, hs⟩
  have : restR Yk.runs [] = [] := rfl
  rw [this, List.append_nil] at hp
  exact hp
/-- What has come out is how the sorted list begins. -/
theorem pre_of {ks : List (Int × Bool)} {A O R W : List (List Val)} (h1 : (O ++ R).Perm A) (h2 : O.Pairwise fun x y => ordG ks x y ≤ 0) (h3 : ∀ x ∈ O, ∀ z ∈ R, ordG ks x z ≤ 0) (h4 : W.Perm A) (h5 : W.Pairwise fun x y => ordG ks x y ≤ 0) (h6 : ∀ x ∈ W, cleanR x = x) : O.length ≤ W.length ∧ O = W.take O.length := by
  have hp := List.mergeSort_perm R (fun x y => decide (ordG ks x y ≤ 0))
  have hs : (R.mergeSort fun x y => decide (ordG ks x y ≤ 0)).Pairwise fun x y => ordG ks x y ≤ 0 := by
    have := List.pairwise_mergeSort (le := fun x y => decide (ordG ks x y ≤ 0)) (fun a b c q1 q2 => by
      simp only [decide_eq_true_eq] at q1 q2 ⊢
      exact ordG_le ks _ _ _ q1 q2) (fun a b => by
      have := ordG_anti ks a b
      simp only [Bool.or_eq_true, decide_eq_true_eq]
      omega) R
    exact this.imp (by simp)
  generalize R.mergeSort (fun x y => decide (ordG ks x y ≤ 0)) = R' at hp hs
  have e : W = O ++ R' := srt_eq (ks := ks) h5 (by
    rw [List.pairwise_append]
    exact ⟨h2, hs, fun x hx z hz => h3 x hx z (hp.mem_iff.1 hz)⟩) (h4.trans (h1.symm.trans (List.Perm.append (List.Perm.refl _) hp.symm))) h6
  rw [e]
  exact ⟨by simp, by simp⟩
end Go.Proofs.YtcbenpodohjbiaaGreat
set_option linter.unusedSimpArgs false
set_option linter.unusedVariables false
namespace Go.Proofs.YtcbenpodohjbiaaGreat

/-! Rows, each once: pure. -/
/-- Rises strictly. -/
def Rs (l : List (List Val)) : Prop := l.Pairwise fun x y => rowsV x y < 0
theorem rows_irr (x : List Val) : ¬ rowsV x x < 0 := by have := rows_anti x x; omega
theorem rows_lt_le {x y z : List Val} (h1 : rowsV x y ≤ 0) (h2 : rowsV y z < 0) : rowsV x z < 0 := by
  have h3 := rows_le x y z h1 (by omega)
  rcases Int.lt_or_eq_of_le h3 with q | q
  · exact q
  · exfalso
    have a1 := rows_anti x z
    have h4 := rows_le z x y (by omega) h1
    have a2 := rows_anti y z
    omega
theorem rows_le_lt {x y z : List Val} (h1 : rowsV x y < 0) (h2 : rowsV y z ≤ 0) : rowsV x z < 0 := by
  have h3 := rows_le x y z (by omega) h2
  rcases Int.lt_or_eq_of_le h3 with q | q
  · exact q
  · exfalso
    have a1 := rows_anti x z
    have h4 := rows_le y z x h2 (by omega)
    have a2 := rows_anti x y
    omega
theorem strict_eq : ∀ {A B : List (List Val)}, Rs A → Rs B → (∀ x, x ∈ A ↔ x ∈ B) → A = B
  | [], [], _, _, _ => rfl
  | [], b :: B, _, _, h => by have := (h b).2 (by simp); simp at this
  | a :: A, [], _, _, h => by have := (h a).1 (by simp); simp at this
  | a :: A, b :: B, hA, hB, h => by
    have hA' := List.pairwise_cons.1 hA
    have hB' := List.pairwise_cons.1 hB
    have e : a = b := by
      rcases List.mem_cons.1 ((h a).1 (by simp)) with q | q
      · exact q
      · rcases List.mem_cons.1 ((h b).2 (by simp)) with r | r
        · exact r.symm
        · exfalso
          have h1 := hB'.1 a q
          have h2 := hA'.1 b r
          have := rows_anti a b
          omega
    subst e
    congr 1
    refine strict_eq hA'.2 hB'.2 fun x => ⟨fun hx => ?_, fun hx => ?_⟩
    · rcases List.mem_cons.1 ((h x).1 (by simp [hx])) with q | q
      · subst q; exact absurd (hA'.1 x hx) (rows_irr x)
      · exact q
    · rcases List.mem_cons.1 ((h x).2 (by simp [hx])) with q | q
      · subst q; exact absurd (hB'.1 x hx) (rows_irr x)
      · exact q
theorem rs_of_app {A B : List (List Val)} (h : Rs (A ++ B)) : Rs A ∧ Rs B ∧ ∀ x ∈ A, ∀ y ∈ B, rowsV x y < 0 := List.pairwise_append.1 h
/-- What has come out is how the list begins. -/
theorem pre_once {O W R : List (List Val)} (h1 : Rs O) (h2 : ∀ x ∈ O, ∀ z ∈ R, rowsV x z < 0) (h3 : Rs W) (h4 : ∀ x, x ∈ W ↔ x ∈ O ∨ x ∈ R) : O.length ≤ W.length ∧ O = W.take O.length := by
  classical
  have hsp : W = W.filter (fun x => decide (x ∈ O)) ++ W.filter (fun x => decide (¬ x ∈ O)) := by
    refine strict_eq h3 ?_ fun x => ?_
    · refine List.pairwise_append.2 ⟨h3.sublist List.filter_sublist, h3.sublist List.filter_sublist, fun x hx y hy => ?_⟩
      have hx' : x ∈ O := by simpa using (List.mem_filter.1 hx).2
      have hy' : ¬ y ∈ O := by simpa using (List.mem_filter.1 hy).2
      rcases (h4 y).1 (List.mem_filter.1 hy).1 with q | q
      · exact absurd q hy'
      · exact h2 x hx' y q
    · rw [List.mem_append, List.mem_filter, List.mem_filter]
      by_cases hx : x ∈ O <;> simp [hx]
  have hO : O = W.filter (fun x => decide (x ∈ O)) := by
    refine strict_eq h1 (h3.sublist List.filter_sublist) fun x => ?_
    rw [List.mem_filter]
    constructor
    · intro hx; exact ⟨(h4 x).2 (.inl hx), by simpa using hx⟩
    · intro hx; simpa using hx.2
  rw [← hO] at hsp
  rw [hsp]
  exact ⟨by simp, by simp⟩
theorem take_mem_getD {L : List (List Val)} {k : Nat} (hk : k < L.length) (x : List Val) : x ∈ L.take (k + 1) ↔ x ∈ L.take k ∨ x = L.getD k [] := by
  have e : L[k]? = some (L.getD k []) := by rw [List.getD_eq_getElem?_getD, List.getElem?_eq_getElem hk]; rfl
  rw [List.take_add_one, e]
  simp
/-- Of a list that rises, each once. -/
theorem onceT_ok {L : List (List Val)} (hL : RisesR L) (hc : ∀ x ∈ L, cleanR x = x) : ∀ (k : Nat), k ≤ L.length → Rs (onceT L k) ∧ (∀ x, x ∈ onceT L k ↔ x ∈ L.take k)
  | 0, _ => ⟨by simp [onceT, Rs], fun x => by simp [onceT]⟩
  | k + 1, hk => by
    obtain ⟨h1, h2⟩ := onceT_ok hL hc k (by omega)
    have hkl : k < L.length := by omega
    have hle : ∀ i j, i < j → j < L.length → rowsV (L.getD i []) (L.getD j []) ≤ 0 := fun i j hij hj => by
      rw [List.getD_eq_getElem?_getD, List.getD_eq_getElem?_getD, List.getElem?_eq_getElem (by omega), List.getElem?_eq_getElem hj]
      exact List.pairwise_iff_getElem.1 hL i j (by omega) hj hij
    have hmem : ∀ x ∈ L.take k, ∃ i, i < k ∧ x = L.getD i [] := fun x hx => by
      obtain ⟨i, hi⟩ := List.getElem?_of_mem hx
      have hik : i < k := by have := (List.getElem?_eq_some_iff.1 hi).1; rw [List.length_take] at this; omega
      rw [List.getElem?_take, if_pos hik] at hi
      exact ⟨i, hik, by rw [List.getD_eq_getElem?_getD, hi]; rfl⟩
    unfold onceT
    by_cases hq : k = 0 ∨ rowsV (L.getD k []) (L.getD (k - 1) []) ≠ 0
    · rw [if_pos hq]
      refine ⟨List.pairwise_append.2 ⟨h1, by simp, fun x hx y hy => ?_⟩, fun x => ?_⟩
      · simp at hy
        subst hy
        obtain ⟨i, hi, rfl⟩ := hmem x ((h2 x).1 hx)
        rcases hq with hq | hq
        · omega
        · have hl := hle (k - 1) k (by omega) hkl
          have ha := rows_anti (L.getD (k - 1) []) (L.getD k [])
          have hlt : rowsV (L.getD (k - 1) []) (L.getD k []) < 0 := by omega
          by_cases e : i = k - 1
          · subst e; exact hlt
          · exact rows_lt_le (hle i (k - 1) (by omega) (by omega)) hlt
      · rw [List.mem_append, h2, take_mem_getD hkl]
        simp
    · rw [if_neg hq, List.append_nil]
      refine ⟨h1, fun x => ?_⟩
      rw [h2, take_mem_getD hkl]
      have hk0 : k ≠ 0 := fun e => hq (.inl e)
      have he : rowsV (L.getD k []) (L.getD (k - 1) []) = 0 := by
        rcases Int.decEq (rowsV (L.getD k []) (L.getD (k - 1) [])) 0 with q | q
        · exact absurd (.inr q) hq
        · exact q
      have hin : ∀ j, j < L.length → L.getD j [] ∈ L := fun j hj => by
        rw [List.getD_eq_getElem?_getD, List.getElem?_eq_getElem hj]; exact List.getElem_mem hj
      have hee := rows_eq _ _ he
      have e1 := hc _ (hin k hkl)
      have e2 := hc _ (hin (k - 1) (by omega))
      unfold cleanR at e1 e2
      rw [e1, e2] at hee
      constructor
      · exact .inl
      · rintro (q | q)
        · exact q
        · subst q
          rw [hee]
          refine List.mem_of_getElem? (i := k - 1) ?_
          rw [List.getElem?_take, if_pos (by omega), List.getD_eq_getElem?_getD, List.getElem?_eq_getElem (by omega)]
          rfl
/-- What the document's once answers. -/
theorem once_spec (rs : List (List Val)) : Rs (onceP (sortedP rs)) ∧ ∀ x, x ∈ onceP (sortedP rs) ↔ x ∈ rs.map cleanR := by
  obtain ⟨h1, h2⟩ := onceT_ok (sortedP_rises rs) (fun x hx => by
    obtain ⟨z, _, rfl⟩ := List.mem_map.1 ((sortedP_perm rs).mem_iff.1 hx)
    exact cleanR_clean z) (sortedP rs).length (Nat.le_refl _)
  refine ⟨h1, fun x => ?_⟩
  unfold onceP
  rw [h2, List.take_length]
  exact (sortedP_perm rs).mem_iff
theorem once_len (l : List (List Val)) : ∀ k, (onceT l k).length ≤ k
  | 0 => by simp [onceT]
  | k + 1 => by
    have := once_len l k
    unfold onceT
    rw [List.length_append]
    split <;> simp <;> omega
end Go.Proofs.YtcbenpodohjbiaaGreat
set_option linter.unusedSimpArgs false
set_option linter.unusedVariables false
set_option maxRecDepth 100000
namespace Go.Proofs.YtcbenpodohjbiaaGreat
open Go.RowKit Go.Sort

/-- What a refusal answers. -/
def codeV (n : Int) : Int := 100 + (if n < 0 then -(n + 1) else n) % 5
theorem codeV_ne (n : Int) : 100 ≤ codeV n ∧ codeV n ≤ 104 := by
  unfold codeV
  have h0 : 0 ≤ (if n < 0 then -(n + 1) else n) := by split <;> omega
  generalize (if n < 0 then -(n + 1) else n) = x at h0
  omega
set_option maxHeartbeats 2000000 in
/-- code (6). -/
theorem code_any (n : Int) (w : World) (hn : -9223372036854775808 ≤ n ∧ n ≤ 9223372036854775807) : Calls Tryz.prog 6 #[.int .i64 n] w fun e w' => e = .returned (.int .i64 (codeV n)) ∧ w' = w := by
  have hc := codeV_ne n
  by_cases h : n < 0
  · have e1 : IntKind.i64.wrap (n + 1) = n + 1 := IntWalk.i64_in _ (by omega)
    have e2 : IntKind.i64.wrap (-(n + 1)) = -(n + 1) := IntWalk.i64_in _ (by omega)
    obtain ⟨x, hx⟩ : ∃ x, -(n + 1) = x := ⟨_, rfl⟩
    have hcv : codeV n = 100 + x % 5 := by unfold codeV; rw [if_pos h, hx]
    have hb : 0 ≤ x % 5 ∧ x % 5 < 5 := by
      rw [hcv] at hc
      omega
    have e3 : IntKind.i64.wrap (x % 5) = x % 5 := IntWalk.i64_in _ (by omega)
    have e4 : IntKind.i64.wrap (100 + x % 5) = 100 + x % 5 := IntWalk.i64_in _ (by omega)
    rw [hx] at e2
    have HCV := hide hcv
    have HX := hide hx
    rw [hcv]
    clear hc hcv
    go_enter Tryz.func6, Tryz.ntmps6
    go_wp2
    go_ret
    exact ⟨rfl, rfl⟩
  · have hcv : codeV n = 100 + n % 5 := by unfold codeV; rw [if_neg h]
    have hb : 0 ≤ n % 5 ∧ n % 5 < 5 := by
      rw [hcv] at hc
      omega
    have e3 : IntKind.i64.wrap (n % 5) = n % 5 := IntWalk.i64_in _ (by omega)
    have e4 : IntKind.i64.wrap (100 + n % 5) = 100 + n % 5 := IntWalk.i64_in _ (by omega)
    rw [hcv]
    clear hc hcv
    go_enter Tryz.func6, Tryz.ntmps6
    go_wp2
    go_ret
    exact ⟨rfl, rfl⟩
end Go.Proofs.YtcbenpodohjbiaaGreat
set_option linter.unusedSimpArgs false
set_option linter.unusedVariables false
set_option maxRecDepth 100000
namespace Go.Proofs.YtcbenpodohjbiaaGreat
open Go.RowKit Go.Sort

theorem OwnI.cap_le {w : World} {base cap : Nat} {a : Option Addr} {L : List Int} (h : OwnI w base (.slice a L.length cap) L) : L.length ≤ cap := by
  rcases h.2 with ⟨e, h0⟩ | ⟨g, cap', cur, e, q1, q2, q3, _⟩
  · injection e with e1 e2 e3; omega
  · injection e with e1 e2 e3; omega
/-- What keys keep: none below 0, none twice. -/
def keysB (ks : List (Int × Bool)) : Bool := !((ks.map Prod.fst).any fun x => decide (x < 0)) && decide (ks.map Prod.fst).Nodup
set_option maxHeartbeats 2000000 in
/-- keysOK (22), of the document. -/
theorem keysOK_any (ks : List (Int × Bool)) (a : Option Addr) (c : Nat) (w : World) (hl : ks.length ≤ 1048576) (ha : KeysAt w a ks) :
    Calls Tryz.prog 22 #[.slice a ks.length c] w fun r w' => r = .returned (.bool (keysB ks)) ∧ Below w.heap.size w w' := by
  obtain ⟨kc, hkc⟩ : ∃ kc, ks.map Prod.fst = kc := ⟨_, rfl⟩
  have hkl : kc.length ≤ 1048576 := by rw [← hkc]; simpa using hl
  obtain ⟨R, hR⟩ : ∃ R, R = keysB ks := ⟨_, rfl⟩
  have HK := hide (fun (W : World) (hW : Below w.heap.size w W) => keyCols_any ks a c W hl (ha.later hW))
  rw [← hR]
  unfold keysB at hR
  rw [hkc] at hR HK
  have HKL := hide hkl
  have HR := hide hR
  have HB : Hid (Below w.heap.size w w) := hide (Below.refl _ _)
  clear ha hR hkl hkc hl
  cases hlk : kc.any (fun x => decide (x < 0))
  case true =>
    have HR2 := unhide HR
    rw [hlk] at HR2
    obtain rfl : R = false := HR2
    go_enter Tryz.func22, Tryz.ntmps22
    go_wp2_with (first
      | (go_at_call 44; refine (unhide HK _ (unhide HB)).mono ?_; rintro r w1 ⟨a1, c1, rfl, hO1, hb1⟩; have HL1 := hide (low_any kc a1 c1 w1 (by have := unhide HKL; omega) hO1.ints); rw [hlk] at HL1)
      | (go_at_call 43; refine (unhide HL1).mono ?_; rintro r w2 ⟨rfl, hb2⟩))
    go_ret
    exact ⟨rfl, below_step hb1 hb2⟩
  case false =>
    have HR2 := unhide HR
    rw [hlk] at HR2
    have HR3 : Hid (R = decide kc.Nodup) := by show _ = _; simpa using HR2
    clear HR HR2
    go_enter Tryz.func22, Tryz.ntmps22
    go_wp2_with (first
      | (go_at_call 44; refine (unhide HK _ (below_step hb1 hb2)).mono ?_; rintro r w3 ⟨a3, c3, rfl, hO3, hb3⟩; have HU3 := hide (unlikeR_any kc a3 c3 w3 (by have := unhide HKL; omega) hO3.cap_le hO3.ints); rw [← unhide HR3] at HU3)
      | (go_at_call 44; refine (unhide HK _ (unhide HB)).mono ?_; rintro r w1 ⟨a1, c1, rfl, hO1, hb1⟩; have HL1 := hide (low_any kc a1 c1 w1 (by have := unhide HKL; omega) hO1.ints); rw [hlk] at HL1)
      | (go_at_call 43; refine (unhide HL1).mono ?_; rintro r w2 ⟨rfl, hb2⟩)
      | (go_at_call 45; refine (unhide HU3).mono ?_; rintro r w4 ⟨rfl, hb4⟩))
    go_ret
    exact ⟨rfl, below_step (below_step (below_step hb1 hb2) hb3) hb4⟩
end Go.Proofs.YtcbenpodohjbiaaGreat
set_option linter.unusedSimpArgs false
set_option linter.unusedVariables false
set_option maxRecDepth 100000
namespace Go.Proofs.YtcbenpodohjbiaaGreat
open Go.RowKit Go.Sort

/-- Numbers of runs, to be read; not in F. -/
def IdsK (w : World) (F : Nat → Prop) (a : Option Addr) (ids : List Nat) : Prop := ids = [] ∨ ∃ b off, a = some ⟨b, off, none⟩ ∧ Tg 3 w b ∧ ¬ F b ∧ ∀ (i : Nat) (x : Nat), ids[i]? = some x → w.cell? ⟨b, off + i, none⟩ = some (.int .i64 (x : Nat))
theorem IdsK.ky {F F' G : Nat → Prop} {w w' : World} {a : Option Addr} {ids : List Nat} (h : IdsK w F a ids) (hk : Ky G w w') (hg : ∀ k, G k → F k ∨ w.heap.size ≤ k) (hn : Nw F F' w) : IdsK w' F' a ids := by
  rcases h with h | ⟨b, off, e, t, hb, h⟩
  · exact .inl h
  · have nb : ¬ G b := fun q => by
      rcases hg b q with r | r
      · exact hb r
      · have := t.lt; omega
    refine .inr ⟨b, off, e, hk.tg t nb, fun q => ?_, fun i x hx => hk.cell (h i x hx) nb⟩
    rcases hn b q with r | r
    · exact hb r
    · have := t.lt; omega
/-- A round of open begins. -/
structure OI (w wr : World) (b y m mg B : Nat) (ks : List (Int × Bool)) (Y : Yv) (op : Option Nat) (a : Option Addr) (ids : List Nat) (F : Nat → Prop) (k : Nat) (L : List Hd) (Yk : Yv) (F1 : Nat → Prop) : Prop where
  nw : Nw F F1 w
  mono : ∀ j, F j → F1 j
  mw : Mw wr b y m mg B ks Yk op L F1
  ky : Ky F w wr
  hid : IdsK wr F1 a ids
  opn : Opn (ids.take k) L Y Yk
theorem Mw.cut {F : Nat → Prop} {w : World} {b y m mg B : Nat} {ks : List (Int × Bool)} {Y : Yv} {op : Option Nat} {L : List Hd} (h : Mw w b y m mg B ks Y op L F) : Mw w b y m mg B ks Y op L (fun k => F k ∧ k < w.heap.size) := by
  obtain ⟨h1, h2, F0, vH, h3, h4, h5, h6, h7, h8, h9⟩ := h
  exact ⟨fun e => h1 e.1, ⟨h2, h7.tg.lt⟩, fun k => F0 k ∧ k < w.heap.size, vH, fun k e => ⟨h3 k e.1, e.2⟩, fun e => h4 e.1, fun g e => ⟨⟨(h5 g e).1, (own_tg h8.1 e).lt⟩, fun k => (h5 g e).2 k.1⟩, h6.cut, h7, h8, h9⟩
/-- Another head stands behind the others. -/
theorem Mw.push {F F0 F1 : Nat → Prop} {w w1 wA w2 : World} {b y m mg B : Nat} {ks : List (Int × Bool)} {Y' : Yv} {op : Option Nat} {L : List Hd} {vH vH' : Value} {z : Hd} (h1 : ¬ F y) (h2 : F mg) (h3 : ∀ k, F0 k → F k) (h4 : ¬ F0 mg) (h5 : ∀ g, vH.ownBlock = some g → F g ∧ ¬ F0 g) (h7 : Mx w mg y B vH) (h8 : OwnH w vH L) (h9 : OrdF w B ks)
    (n1 : Nw F0 F1 w) (a3 : Yw w1 b y m Y' op F1) (a4 : Ky F0 w w1) (lim : ∀ k, F1 k → k < w1.heap.size) (hA : Below w1.heap.size w1 wA) (hH : OwnH w2 vH' (L ++ [z])) (hg : Grew wA w2 vH vH') (hK : Ky (fun k => vH.ownBlock = some k) wA w2) :
    Mo w (w2.setCell ⟨mg, 2, none⟩ vH') b y m mg B ks Y' op (L ++ [z]) F := by
  have tH : ∀ g, vH.ownBlock = some g → Tg 120 w g := fun g e => own_tg h8.1 e
  have nF1 : ∀ k, k < w.heap.size → ¬ F0 k → ¬ F1 k := fun k hk hf e => by
    rcases n1 k e with q | q
    · exact hf q
    · omega
  have nmH : ¬ vH.ownBlock = some mg := fun e => (tH mg e).ne h7.tg (by decide) rfl
  have M1 := h7.ky a4 h4
  have M2 := (M1.later hA).ky hK nmH
  have k3 : Ky (fun k => k = mg) w2 (w2.setCell ⟨mg, 2, none⟩ vH') := (Ky.refl (fun k => k = mg) w2).set (F := fun k => k = mg) rfl M2.tg (by decide) _ _
  have k13 : Ky (fun k => vH.ownBlock = some k ∨ k = mg) w1 (w2.setCell ⟨mg, 2, none⟩ vH') := ((Ky.of_below hA).trans (hK.mono fun k e => .inl e) (Nw.refl _ _)).trans (k3.mono fun k e => .inr e) (Nw.refl _ _)
  have ty1 := a3.tgy
  have new : ∀ g, vH'.ownBlock = some g → (vH.ownBlock = some g ∨ w1.heap.size ≤ g) := fun g e => by
    rcases hg.2 with q | ⟨q, q1, q2⟩
    · left; rw [← q]; exact e
    · right; rw [q1] at e; injection e with e; have := hA.size; omega
  have nH1 : ∀ g, vH'.ownBlock = some g → ¬ F1 g := fun g e => by
    rcases new g e with q | q
    · exact nF1 g (tH g q).lt (h5 g q).2
    · exact fun f => by have := lim g f; omega
  have s1 := a4.size
  refine ⟨fun k => F k ∨ F1 k ∨ vH'.ownBlock = some k, fun k hk => ?_, fun k hk => .inl hk, ⟨fun e => ?_, .inl h2, F1, vH', fun k hk => .inr (.inl hk), nF1 mg h7.tg.lt h4, fun g e => ⟨.inr (.inr e), nH1 g e⟩, a3.ky k13 (fun k e => ?_) (fun e => ?_), M2.set _, hH.ky k3 (fun g e q => ?_), (h9.ky a4).ky k13⟩, ?_⟩
  · rcases hk with hk | hk | hk
    · exact .inl hk
    · exact (n1 k hk).imp (h3 k) id
    · rcases new k hk with q | q
      · exact .inl (h5 k q).1
      · exact .inr (by omega)
  · rcases e with e | e | e
    · exact h1 e
    · exact a3.1 e
    · rcases new y e with q | q
      · exact ((a4.tg (tH y q) (h5 y q).2)).ne ty1 (by decide) rfl
      · have := ty1.lt; omega
  · rcases e with e | e
    · exact nF1 k (tH k e).lt (h5 k e).2
    · subst e; exact nF1 k h7.tg.lt h4
  · rcases e with e | e
    · exact ((a4.tg (tH y e) (h5 y e).2)).ne ty1 (by decide) rfl
    · exact ty1.ne M1.tg (by decide) e
  · exact (own_tg hH.1 e).ne M2.tg (by decide) q
  · exact (a4.mono h3).trans (k13.mono (G := F) fun k e => by rcases e with e | e; exact (h5 k e).1; subst e; exact h2) (Nw.refl _ _)
end Go.Proofs.YtcbenpodohjbiaaGreat
set_option linter.unusedSimpArgs false
set_option linter.unusedVariables false
namespace Go.Proofs.YtcbenpodohjbiaaGreat

/-! The runs that are to be merged, and how often their rows were put. -/
def wsum (R : List (List (List Val))) : List Nat → List Nat → Nat
  | i :: ids, l :: labs => l * (R.getD i []).length + wsum R ids labs
  | _, _ => 0
theorem rowsOf_cons (R : List (List (List Val))) (i : Nat) (ids : List Nat) : rowsOf R (i :: ids) = R.getD i [] ++ rowsOf R ids := by
  unfold rowsOf
  rw [List.flatMap_cons]
theorem rowsOf_app (R : List (List (List Val))) (a b : List Nat) : rowsOf R (a ++ b) = rowsOf R a ++ rowsOf R b := by
  unfold rowsOf
  rw [List.flatMap_append]
theorem rowsOf_one (R : List (List (List Val))) (i : Nat) : rowsOf R [i] = R.getD i [] := by
  unfold rowsOf
  simp
theorem rowsOf_cong {R R' : List (List (List Val))} {ids : List Nat} (h : ∀ i ∈ ids, R'.getD i [] = R.getD i []) : rowsOf R' ids = rowsOf R ids := by
  unfold rowsOf
  rw [List.flatMap_def, List.flatMap_def]
  congr 1
  exact List.map_congr_left h
theorem wsum_le {R : List (List (List Val))} {k : Nat} : ∀ {ids labs : List Nat}, (∀ l ∈ labs, l ≤ k) → wsum R ids labs ≤ k * (rowsOf R ids).length
  | [], labs, _ => by cases labs <;> simp [wsum]
  | i :: ids, [], _ => by simp [wsum]
  | i :: ids, l :: labs, h => by
    have ih := wsum_le (R := R) (ids := ids) (labs := labs) (fun x hx => h x (by simp [hx]))
    have h1 := Nat.mul_le_mul_right (R.getD i []).length (h l (by simp))
    rw [rowsOf_cons, List.length_append, Nat.mul_add]
    simp only [wsum]
    omega
theorem wsum_split {R : List (List (List Val))} : ∀ (c : Nat) {ids labs : List Nat}, labs.length = ids.length → wsum R ids labs = wsum R (ids.take c) (labs.take c) + wsum R (ids.drop c) (labs.drop c)
  | 0, ids, labs, _ => by simp [wsum]
  | c + 1, [], labs, h => by
    have : labs = [] := List.eq_nil_of_length_eq_zero (by simpa using h)
    subst this
    simp [wsum]
  | c + 1, i :: ids, [], h => by simp at h
  | c + 1, i :: ids, l :: labs, h => by
    have ih := wsum_split (R := R) c (ids := ids) (labs := labs) (by simpa using h)
    simp only [List.take_succ_cons, List.drop_succ_cons, wsum]
    omega
theorem wsum_snoc {R : List (List (List Val))} : ∀ {ids labs : List Nat} (i l : Nat), labs.length = ids.length → wsum R (ids ++ [i]) (labs ++ [l]) = wsum R ids labs + l * (R.getD i []).length
  | [], labs, i, l, h => by
    have : labs = [] := List.eq_nil_of_length_eq_zero (by simpa using h)
    subst this
    simp [wsum]
  | j :: ids, [], i, l, h => by simp at h
  | j :: ids, x :: labs, i, l, h => by
    have ih := wsum_snoc (R := R) (ids := ids) (labs := labs) i l (by simpa using h)
    simp only [List.cons_append, wsum]
    omega
theorem wsum_cong {R R' : List (List (List Val))} : ∀ {ids labs : List Nat}, (∀ i ∈ ids, R'.getD i [] = R.getD i []) → wsum R' ids labs = wsum R ids labs
  | [], labs, _ => by cases labs <;> simp [wsum]
  | i :: ids, [], _ => by simp [wsum]
  | i :: ids, l :: labs, h => by
    have ih := wsum_cong (R := R) (R' := R') (ids := ids) (labs := labs) (fun x hx => h x (by simp [hx]))
    simp only [wsum]
    rw [ih, h i (by simp)]
theorem wsum_ones {R : List (List (List Val))} : ∀ (ids : List Nat), wsum R ids (List.replicate ids.length 1) = (rowsOf R ids).length
  | [] => by simp [wsum, rowsOf]
  | i :: ids => by
    have ih := wsum_ones (R := R) ids
    rw [List.length_cons, List.replicate_succ, rowsOf_cons, List.length_append]
    simp only [wsum]
    omega
theorem Lab.mono {d k : Nat} {labs : List Nat} (h : Lab d k labs) {c : Nat} (h1 : 1 ≤ c) (h2 : c ≤ labs.length) : ∀ x ∈ labs.take c, x ≤ labs.getD (c - 1) 0 := by
  have hp : labs.Pairwise (· ≤ ·) := by
    obtain ⟨j, a, b, rfl, _⟩ := h
    rw [List.pairwise_append]
    refine ⟨List.pairwise_replicate.2 (.inr (Nat.le_refl _)), List.pairwise_replicate.2 (.inr (Nat.le_refl _)), fun x hx y hy => ?_⟩
    have := (List.mem_replicate.1 hx).2
    have := (List.mem_replicate.1 hy).2
    omega
  intro x hx
  obtain ⟨i, hi⟩ := List.getElem?_of_mem hx
  have hic : i < c := by have := (List.getElem?_eq_some_iff.1 hi).1; rw [List.length_take] at this; omega
  rw [List.getElem?_take, if_pos hic] at hi
  obtain ⟨hil, rfl⟩ := List.getElem?_eq_some_iff.1 hi
  rw [List.getD_eq_getElem?_getD, List.getElem?_eq_getElem (by omega), Option.getD_some]
  rcases Nat.lt_or_ge i (c - 1) with q | q
  · exact List.pairwise_iff_getElem.1 hp i (c - 1) hil (by omega) q
  · have : i = c - 1 := by omega
    subst this
    exact Nat.le_refl _
/-- The runs that wait to be merged. -/
structure QI (ks : List (Int × Bool)) (BU k : Nat) (A : List (List Val)) (C : Nat) (Y0 Y : Yv) (ids labs : List Nat) : Prop where
  rd : Y.rd = false
  rf : Y.rf = Y0.rf
  cd : Y.cd = Y0.cd
  out : Y.out = Y0.out
  held : Y.held = 0
  m0 : 0 ≤ Y.most
  m1 : Y.most ≤ BU
  nd : ids.Nodup
  th : ∀ i ∈ ids, Y.there[i]? = some true ∧ ∃ x rs, Y.runs[i]? = some (x :: rs)
  srt : ∀ i ∈ ids, (Y.runs.getD i []).Pairwise fun x y => ordG ks x y ≤ 0
  cln : ∀ i ∈ ids, ∀ x ∈ Y.runs.getD i [], cleanR x = x
  perm : (rowsOf Y.runs ids).Perm A
  lab : Lab (BU - 1) k labs
  ll : labs.length = ids.length
  p0 : 0 ≤ Y.puts
  p1 : Y.puts ≤ (wsum Y.runs ids labs : Nat)
  rl : Y.runs.length + ids.length ≤ C
theorem QI.lt {ks : List (Int × Bool)} {BU k : Nat} {A : List (List Val)} {C : Nat} {Y0 Y : Yv} {ids labs : List Nat} (h : QI ks BU k A C Y0 Y ids labs) : ∀ i ∈ ids, i < Y.runs.length := fun i hi => by
  obtain ⟨x, rs, e⟩ := (h.th i hi).2
  exact (List.getElem?_eq_some_iff.1 e).1
theorem new_getD {Y : Yv} {i : Nat} (h : i < Y.runs.length) : Y.tick.newRun.runs.getD i [] = Y.runs.getD i [] := by
  show (Y.runs ++ [[]]).getD i [] = _
  rw [List.getD_eq_getElem?_getD, List.getD_eq_getElem?_getD, List.getElem?_append_left h]
theorem new_get {Y : Yv} {i : Nat} (h : i < Y.runs.length) : Y.tick.newRun.runs[i]? = Y.runs[i]? := by
  show (Y.runs ++ [[]])[i]? = _
  rw [List.getElem?_append_left h]
/-- Some are merged into a new run. -/
theorem QI.merge {ks : List (Int × Bool)} {BU k : Nat} {A : List (List Val)} {C : Nat} {Y0 Y Y' : Yv} {ids labs : List Nat} {O : List (List Val)} {c : Nat} (h : QI ks BU k A C Y0 Y ids labs) (hBU : 4 ≤ BU) (ht : BU - 1 < ids.length) (hlen : Y.there.length = Y.runs.length) (hc : c = cntM (BU - 1) ids.length) (hM : MI ks (ids.take c) (some Y.runs.length) BU Y.tick.newRun Y' [] O []) :
    QI ks BU k A C Y0 Y' (ids.drop c ++ [Y.runs.length]) (labs.drop c ++ [labs.getD (c - 1) 0 + 1]) := by
  obtain ⟨c1, c2⟩ := cntM_le (t := ids.length) (show 3 ≤ BU - 1 by omega)
  rw [← hc] at c1 c2
  have hlt := h.lt
  have hnd := h.nd
  have hsplit : ids = ids.take c ++ ids.drop c := (List.take_append_drop c ids).symm
  have hdj : ∀ i ∈ ids.drop c, i ∉ ids.take c := fun i hi q => by
    rw [hsplit] at hnd
    exact (List.nodup_append.1 hnd).2.2 i q i hi rfl
  have hmd : ∀ i ∈ ids.drop c, i ∈ ids := fun i hi => List.mem_of_mem_drop hi
  have hmt : ∀ i ∈ ids.take c, i ∈ ids := fun i hi => List.mem_of_mem_take hi
  have hRt : Y.runs.length ∉ ids.take c := fun q => by have := hlt _ (hmt _ q); omega
  have hRd : Y.runs.length ∉ ids.drop c := fun q => by have := hlt _ (hmd _ q); omega
  obtain ⟨o1, o2⟩ := hM.done
  obtain ⟨r1, r2, r3⟩ := hM.r _ rfl
  have eT : rowsOf Y.tick.newRun.runs (ids.take c) = rowsOf Y.runs (ids.take c) := rowsOf_cong fun i hi => new_getD (hlt i (hmt i hi))
  rw [eT] at o1
  have kd : ∀ i ∈ ids.drop c, Y'.runs[i]? = Y.runs[i]? := fun i hi => by
    rw [hM.keep i (hdj i hi) (fun e => by injection e with e; have := hlt _ (hmd _ hi); omega)]
    exact new_get (hlt i (hmd i hi))
  have kg : ∀ i ∈ ids.drop c, Y'.runs.getD i [] = Y.runs.getD i [] := fun i hi => by rw [List.getD_eq_getElem?_getD, List.getD_eq_getElem?_getD, kd i hi]
  have eR : Y'.runs.getD Y.runs.length [] = O := getD_of r2
  have eD : rowsOf Y'.runs (ids.drop c) = rowsOf Y.runs (ids.drop c) := rowsOf_cong kg
  have hO : ∃ x rs, O = x :: rs := by
    cases hO : O with
    | cons x rs => exact ⟨x, rs, rfl⟩
    | nil =>
      exfalso
      subst hO
      have e := o1.length_eq
      obtain ⟨i, t, ei⟩ : ∃ i t, ids.take c = i :: t := by
        cases e2 : ids.take c with
        | nil => have := congrArg List.length e2; rw [List.length_take, List.length_nil] at this; omega
        | cons i t => exact ⟨i, t, rfl⟩
      rw [ei, rowsOf_cons] at e
      obtain ⟨x, rs, er⟩ := (h.th i (hmt i (by rw [ei]; simp))).2
      rw [getD_of er] at e
      simp at e
  have hdl : (ids.drop c).length = ids.length - c := List.length_drop
  refine ⟨hM.rd, hM.rf.trans h.rf, hM.cd.trans h.cd, r1.trans h.out, by have := hM.held; simpa using this, ?_, hM.most, ?_, fun i hi => ?_, fun i hi => ?_, fun i hi => ?_, ?_, ?_, ?_, ?_, ?_, ?_⟩
  · have := hM.hm; have h2 := hM.held; simp at h2; omega
  · refine List.nodup_append.2 ⟨?_, by simp, fun a ha b hb e => ?_⟩
    · rw [hsplit] at hnd; exact (List.nodup_append.1 hnd).2.1
    · simp at hb; subst hb; subst e; exact hRd ha
  · rcases List.mem_append.1 hi with q | q
    · obtain ⟨t1, t2⟩ := h.th i (hmd i q)
      refine ⟨?_, by rw [kd i q]; exact t2⟩
      rw [hM.oth i (hdj i q)]
      show (Y.there ++ [true])[i]? = _
      rw [List.getElem?_append_left (by have := hlt i (hmd i q); omega)]
      exact t1
    · simp at q
      subst q
      refine ⟨?_, ?_⟩
      · rw [hM.oth _ hRt]
        show (Y.there ++ [true])[Y.runs.length]? = _
        rw [← hlen, List.getElem?_append_right (Nat.le_refl _), Nat.sub_self]; rfl
      · obtain ⟨x, rs, e⟩ := hO
        exact ⟨x, rs, by rw [r2, e]⟩
  · rcases List.mem_append.1 hi with q | q
    · rw [kg i q]; exact h.srt i (hmd i q)
    · simp at q
      subst q
      rw [eR]; exact o2
  · rcases List.mem_append.1 hi with q | q
    · rw [kg i q]; exact h.cln i (hmd i q)
    · simp at q
      subst q
      rw [eR]
      intro x hx
      have hx' := o1.mem_iff.1 hx
      unfold rowsOf at hx'
      obtain ⟨j, hj, hxj⟩ := List.mem_flatMap.1 hx'
      exact h.cln j (hmt j hj) x hxj
  · rw [rowsOf_app, rowsOf_one, eR, eD]
    refine List.Perm.trans ?_ h.perm
    refine List.Perm.trans (List.Perm.append (List.Perm.refl _) o1) ?_
    refine List.Perm.trans List.perm_append_comm ?_
    rw [← rowsOf_app, ← hsplit]
  · have := h.lab.step (show 3 ≤ BU - 1 by omega) (by rw [h.ll]; exact ht)
    rw [h.ll, ← hc] at this
    exact this
  · rw [List.length_append, List.length_append, List.length_drop, List.length_drop, h.ll]; rfl
  · rw [r3]
    have := h.p0
    show 0 ≤ Y.puts + _
    omega
  · rw [r3, wsum_snoc _ _ (by rw [List.length_drop, List.length_drop, h.ll]), wsum_cong kg, eR]
    have e1 := wsum_split (R := Y.runs) c h.ll
    have e2 := wsum_le (R := Y.runs) (ids := ids.take c) (h.lab.mono (c := c) (by omega) (by rw [h.ll]; omega))
    have e3 := o1.length_eq
    have e4 := h.p1
    rw [e1] at e4
    rw [← e3] at e2
    have e5 : (labs.getD (c - 1) 0 + 1) * O.length = labs.getD (c - 1) 0 * O.length + O.length := by rw [Nat.add_mul, Nat.one_mul]
    rw [e5]
    show Y.puts + _ ≤ _
    omega
  · have e1 : Y'.runs.length = Y.runs.length + 1 := by
      rw [hM.len]
      show (Y.runs ++ [[]]).length = _
      rw [List.length_append]; rfl
    have := h.rl
    rw [e1, List.length_append, List.length_drop]
    simp only [List.length_cons, List.length_nil]
    omega
theorem QI.puts {ks : List (Int × Bool)} {BU k : Nat} {A : List (List Val)} {C : Nat} {Y0 Y : Yv} {ids labs : List Nat} (h : QI ks BU k A C Y0 Y ids labs) (hBU : 4 ≤ BU) : Y.puts ≤ ((A.length * k : Nat) : Int) := by
  have e1 := wsum_le (R := Y.runs) (ids := ids) (h.lab.le (show 3 ≤ BU - 1 by omega))
  rw [h.perm.length_eq, Nat.mul_comm] at e1
  have := h.p1
  omega
end Go.Proofs.YtcbenpodohjbiaaGreat

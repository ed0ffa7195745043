import Derived.Test.YtcbenpodohjbiaaGreatSpR
import Derived.Test.YtcbenpodohjbiaaGreatShS
import Derived.Shelf.SlSortCmp.NoneTotal
set_option linter.unusedSimpArgs false
set_option linter.unusedVariables false
set_option maxRecDepth 100000
namespace Go.Proofs.YtcbenpodohjbiaaGreat
open Go.RowKit Go.Sort Go.Shelf Go.Lib

theorem ordG_anti (ks : List (Int × Bool)) (x y : List Val) : ordG ks x y = - ordG ks y x := by
  have h1 := keysV_anti ks x y
  have h2 := rows_anti x y
  unfold ordG
  split <;> split <;> omega
theorem ordG_le (ks : List (Int × Bool)) (x y z : List Val) (h1 : ordG ks x y ≤ 0) (h2 : ordG ks y z ≤ 0) : ordG ks x z ≤ 0 := by
  have a1 := keysV_anti ks x y
  have a2 := keysV_anti ks y z
  have a3 := keysV_anti ks x z
  have t1 := keysV_le ks x y z
  have t2 := keysV_le ks y z x
  have t3 := keysV_le ks z x y
  have r1 := rows_le x y z
  unfold ordG at *
  by_cases e1 : keysV ks x y = 0 <;> by_cases e2 : keysV ks y z = 0 <;> by_cases e3 : keysV ks x z = 0 <;> simp only [e1, e2, e3, if_true, if_false] at h1 h2 ⊢ <;> omega
theorem ordG_self (ks : List (Int × Bool)) (x : List Val) : ordG ks x x = 0 := by have := ordG_anti ks x x; omega
theorem ordG_eq {ks : List (Int × Bool)} {x y : List Val} (h : ordG ks x y = 0) : cleanR x = cleanR y := by
  unfold ordG at h
  split at h
  · exact rows_eq x y h
  · rename_i e; exact absurd h e
/-- The order of a sorter, in memory. -/
def OrdF (w : World) (B : Nat) (ks : List (Int × Bool)) : Prop := ∃ aK cK, w.cell? ⟨B, 0, none⟩ = some (.slice aK ks.length cK) ∧ Tg 23 w B ∧ KeysAt w aK ks ∧ (∀ b off, aK = some ⟨b, off, none⟩ → ks ≠ [] → Tg 58 w b) ∧ (∀ k ∈ ks, 0 ≤ k.1) ∧ ks.length ≤ 1048576
theorem OrdF.ky {F : Nat → Prop} {w w' : World} {B : Nat} {ks : List (Int × Bool)} (h : OrdF w B ks) (hk : Ky F w w') : OrdF w' B ks := by
  obtain ⟨aK, cK, h1, h2, h3, h4, h5⟩ := h
  refine ⟨aK, cK, ?_, h2.ky (.inr (.inl rfl)) hk, ?_, fun b off e hne => (h4 b off e hne).ky (.inr (.inr rfl)) hk, h5⟩
  · rw [World.cell?_of_block (w := w) (a := ⟨B, 0, none⟩) (hk.rows B 23 (.inr (.inl rfl)) h2)]; exact h1
  · by_cases hks : ks = []
    · exact .inl hks
    · rcases h3 with h3 | ⟨b, off, e, h3⟩
      · exact .inl h3
      · have eb : ∀ o, w'.cell? ⟨b, o, none⟩ = w.cell? ⟨b, o, none⟩ := fun o => World.cell?_of_block (w := w) (a := ⟨b, o, none⟩) (hk.rows b 58 (.inr (.inr rfl)) (h4 b off e hks))
        exact .inr ⟨b, off, e, fun i x hx => by rw [eb, eb]; exact h3 i x hx⟩
theorem OrdF.cmp {w : World} {B : Nat} {ks : List (Int × Bool)} {u v : Value} {x y : List Val} (h : OrdF w B ks) (hu : Rw w u x) (hv : Rw w v y) : Calls Tryz.prog 32 (#[u, v] ++ #[.pointer (some ⟨B, 0, none⟩)]) w fun e w' => e = .returned (.int .i64 (ordG ks x y)) ∧ Up w w' := by
  obtain ⟨aK, cK, h1, _, h3, _, h5, h6⟩ := h
  obtain ⟨a, c, rfl, ha, hla⟩ := hu
  obtain ⟨a', c', rfl, hb, hlb⟩ := hv
  exact ord32 B aK cK ks a a' c c' x y w h1 h3 h5 h6 hla hlb ha.at hb.at

def padI (m i : Nat) : Nat := if i < m then i else 0
theorem padI_lt {m : Nat} (hm : 0 < m) (i : Nat) : padI m i < m := by unfold padI; split <;> omega
theorem padI_in {m i : Nat} (h : i < m) : padI m i = i := if_pos h
def encR (us : List Value) : Nat → Value := fun i => us.getD (padI us.length i) (.slice none 0 0)
def cmpR (ks : List (Int × Bool)) (rs : List (List Val)) (i j : Nat) : Int := ordG ks (rs.getD (padI rs.length i) []) (rs.getD (padI rs.length j) [])
theorem swoR (ks : List (Int × Bool)) (rs : List (List Val)) : SWO (ltOf (cmpR ks rs)) where
  irrefl x := by unfold ltOf cmpR; rw [ordG_self]; rfl
  trans x y z h1 h2 := by
    unfold ltOf cmpR at *
    simp only [decide_eq_true_eq] at *
    have q1 := ordG_le ks (rs.getD (padI rs.length x) []) (rs.getD (padI rs.length y) []) (rs.getD (padI rs.length z) []) (by omega) (by omega)
    have q2 := ordG_anti ks (rs.getD (padI rs.length x) []) (rs.getD (padI rs.length z) [])
    have q3 := ordG_le ks (rs.getD (padI rs.length z) []) (rs.getD (padI rs.length x) []) (rs.getD (padI rs.length y) [])
    have q4 := ordG_anti ks (rs.getD (padI rs.length y) []) (rs.getD (padI rs.length z) [])
    omega
  ntrans x y z h1 h2 := by
    unfold ltOf cmpR at *
    simp only [decide_eq_false_iff_not] at *
    have q1 := ordG_anti ks (rs.getD (padI rs.length x) []) (rs.getD (padI rs.length y) [])
    have q2 := ordG_anti ks (rs.getD (padI rs.length y) []) (rs.getD (padI rs.length z) [])
    have q3 := ordG_anti ks (rs.getD (padI rs.length x) []) (rs.getD (padI rs.length z) [])
    have q4 := ordG_le ks (rs.getD (padI rs.length z) []) (rs.getD (padI rs.length y) []) (rs.getD (padI rs.length x) []) (by omega) (by omega)
    omega
theorem own_sortedR {w : World} {g cap m n : Nat} {enc : Nat → Value} {xs : List Value} {d' : Array Nat} {os : Array Obj} (h : w.ownsRow 0 70 1 (.slice (some ⟨g, 0, none⟩) m cap) m xs) (hs : d'.size = m) :
    (sortWorld enc w g 0 n d' os).ownsRow 0 70 1 (.slice (some ⟨g, 0, none⟩) m cap) m (d'.toList.map enc) ∧ w.grownBy (sortWorld enc w g 0 n d' os) (some g) := by
  rcases h.2 with ⟨e, _⟩ | ⟨g', cap', cur, e, hb, hh, hnc, hcm, hcs, htake⟩
  · cases e
  injection e with e1 e2 e3
  injection e1 with e1
  injection e1 with e1
  subst e1 e3
  have hlt : g < w.heap.size := (Array.getElem?_eq_some_iff.1 hh).1
  have hheap : (sortWorld enc w g 0 n d' os).heap[g]? = some (.cells (putCells enc 0 d' cur) 70 (0, 0)) := by
    unfold sortWorld grow putRow mapBlock
    simp only [Sort.ahead]
    rw [Array.getElem?_append_left (by simpa using hlt), Array.getElem?_modify, if_pos rfl, hh]
    rfl
  refine ⟨⟨by simp [hs], .inr ⟨g, cap, putCells enc 0 d' cur, rfl, hb, hheap, hnc, hcm, by simp [putCells, hcs], ?_⟩⟩, ⟨rfl, rfl, rfl, ?_, ?_⟩⟩
  · refine List.ext_getElem? fun j => ?_
    rw [List.getElem?_take, Nat.mul_one]
    by_cases hj : j < m
    · rw [if_pos hj, Array.getElem?_toList, List.getElem?_map, Array.getElem?_toList]
      have hjc : j < cur.size := by rw [hcs]; omega
      have hjd : j < d'.size := by omega
      simp only [putCells, Array.getElem?_mapIdx, Array.getElem?_eq_getElem hjc, Option.map_some]
      rw [if_pos ⟨Nat.zero_le _, by omega⟩, Nat.sub_zero, Array.getElem?_eq_getElem hjd, getElem!_pos d' j hjd]
      rfl
    · rw [if_neg hj, List.getElem?_eq_none (by simp; omega)]
  · unfold sortWorld grow putRow mapBlock
    simp [Sort.ahead]
  · intro k hk hne
    have hkg : g ≠ k := fun e => hne (by rw [e])
    unfold sortWorld grow putRow mapBlock
    simp only [Sort.ahead]
    rw [Array.getElem?_append_left (by simpa using hk), Array.getElem?_modify, if_neg hkg]

set_option maxHeartbeats 1000000 in
/-- slices.SortFunc (93) of rows. -/
theorem rsort_any {w : World} {v : Value} {rs : List (List Val)} {B : Nat} {ks : List (Int × Bool)} (hL : Lst w v rs) (hO : OrdF w B ks) (hn : rs.length ≤ 1048576) :
    Calls Tryz.prog 93 #[v, .func (.func 32) #[] #[.pointer (some ⟨B, 0, none⟩)]] w fun e w' => e = .returned (.tuple #[]) ∧ ∃ rs', rs'.Perm rs ∧ rs'.Pairwise (fun x y => ordG ks x y ≤ 0) ∧ Lst w' v rs' ∧ Ky (fun k => v.ownBlock = some k) w w' := by
  by_cases h0 : rs.length = 0
  · have hr : rs = [] := List.eq_nil_of_length_eq_zero h0
    subst hr
    obtain ⟨a, c, rfl⟩ := hL.form
    have hcon := AnyF.slices_SortFunc_none { Tryz.sortR with } a c (.func (.func 32) #[] #[.pointer (some ⟨B, 0, none⟩)]) w
    change Calls Tryz.prog 93 _ _ _ at hcon
    refine hcon.mono ?_
    rintro e w' ⟨rfl, rfl⟩
    exact ⟨rfl, [], List.Perm.refl _, List.Pairwise.nil, hL, Ky.refl _ _⟩
  · obtain ⟨us, hul, hown, hrw⟩ := hL
    obtain ⟨m, hm⟩ : ∃ m, rs.length = m := ⟨_, rfl⟩
    have hum : us.length = m := hul.trans hm
    rw [hm] at hown hn h0
    have hm0 : 0 < m := by omega
    obtain ⟨g, cap, rfl⟩ : ∃ g cap, v = .slice (some ⟨g, 0, none⟩) m cap := by
      rcases hown.2 with ⟨_, h1⟩ | ⟨g, cap, cur, e, _⟩
      · omega
      · exact ⟨g, cap, e⟩
    have tg : Tg 70 w g := own_tg hown rfl
    have eg : ∀ args w, (callFunc 32 args).run Tryz.prog w = .ok (.enter 32 args) w := enters_of Tryz.func32 (by kernel_rfl) rfl
    have hsz : (Array.range m).size = m := by simp
    have hat : ∀ i, i < m → us[i]? = some (us.getD i (.slice none 0 0)) ∧ rs[i]? = some (rs.getD i []) := fun i hi => by
      constructor
      · rw [List.getD_eq_getElem?_getD, List.getElem?_eq_getElem (by omega)]; rfl
      · rw [List.getD_eq_getElem?_getD, List.getElem?_eq_getElem (by omega)]; rfl
    have hRw : ∀ i, i < m → Rw w (us.getD i (.slice none 0 0)) (rs.getD i []) := fun i hi => hrw i _ _ (hat i hi).1 (hat i hi).2
    have ex : ∀ x, encR us x = us.getD (padI m x) (.slice none 0 0) := fun x => by unfold encR; rw [hum]
    have hH : Holds (encR us) w g 0 (Array.range m) := fun j hj => by
      have hj' : j < m := by simpa using hj
      have e1 : (Array.range m)[j]! = j := by rw [getElem!_pos (Array.range m) j hj]; simp
      rw [e1, Nat.zero_add]
      refine ⟨?_, World.ownsRow.frozenAt hown j⟩
      rw [World.ownsRow.cellAt hown j (by omega)]
      unfold encR
      rw [hum, padI_in hj', (hat j hj').1]
    have kyS : ∀ (n : Nat) (os : Array Obj) (dk : Array Nat), dk.size = m → Ky (fun k => k = g) w (sortWorld (encR us) w g 0 n dk os) := fun n os dk hd =>
      Ky.of_grown (own_sortedR (enc := encR us) (n := n) (os := os) hown hd).2 (fun q e => by injection e with e; exact e.symm) (fun q t e hc k => by injection e with e; subst e; exact tg.ne k (by rintro rfl; revert hc; decide) rfl)
    have hcmp : CmpLays1 Tryz.prog 32 #[.pointer (some ⟨B, 0, none⟩)] (encR us) (cmpR ks rs) g 0 (Array.range m).size w := fun n os dk hd x y => by
      have hk := kyS n os dk (by rw [hd, hsz])
      have c1 := (hRw (padI m x) (padI_lt hm0 x)).ky hk
      have c2 := (hRw (padI m y) (padI_lt hm0 y)).ky hk
      have := (hO.ky hk).cmp c1 c2
      unfold cmpR
      rw [hm]
      rw [ex x, ex y]
      exact this.mono fun e w' h => ⟨h.1, h.2.grown⟩
    have hone : OneCell (encR us) := fun i => by
      have := (hRw (padI m i) (padI_lt hm0 i)).one
      unfold encR
      rw [hum]
      exact this
    have hcon := Any.slices_SortFunc Tryz.sortR (encR us) hone (cmpR ks rs) (swoR ks rs) 32 #[.pointer (some ⟨B, 0, none⟩)] g 0 cap (Array.range m) w eg hcmp hH (hown.lt g rfl).2 (by rw [hsz]; omega)
    change Calls Tryz.prog 93 _ _ _ at hcon
    rw [hsz] at hcon
    refine hcon.mono ?_
    rintro e w' ⟨rfl, d', n, os, hp, hs, rfl⟩
    obtain ⟨hp1, hp2, hp3⟩ := hp
    have hd : d'.size = m := by rw [hp1]; simp
    have e2 : d'.extract 0 m = d' := by rw [← hd]; simp
    have e3 : (Array.range m).extract 0 m = Array.range m := by simp
    rw [e2, e3] at hp3
    have hpl : d'.toList.Perm (List.range m) := by
      have h4 : (Array.range m).toList = List.range m := by simp
      have h5 : d'.toList.Perm (Array.range m).toList := by simpa using hp3
      rw [h4] at h5; exact h5
    have hmem : ∀ i, i < m → d'[i]! < m := fun i hi => by
      have : d'[i]! ∈ d'.toList := by rw [getElem!_pos d' i (by omega)]; simp
      exact List.mem_range.1 (hpl.mem_iff.1 this)
    have hdl : ∀ i, i < m → d'.toList[i]? = some d'[i]! := fun i hi => by rw [Array.getElem?_toList, getElem!_pos d' i (by omega)]; exact Array.getElem?_eq_getElem (by omega)
    obtain ⟨q1, q2⟩ := own_sortedR (enc := encR us) (n := n) (os := os) hown hd
    have hk := kyS n os d' hd
    have hlen : (d'.toList.map fun i => rs.getD i []).length = m := by simp [hd]
    refine ⟨rfl, d'.toList.map fun i => rs.getD i [], ?_, ?_, ⟨d'.toList.map (encR us), by simp, by rw [hlen]; exact q1, fun i u r hu hr => ?_⟩, hk.mono fun k e => by subst e; rfl⟩
    · refine (hpl.map _).trans ?_
      have : (List.range m).map (fun i => rs.getD i []) = rs := by
        apply List.ext_getElem?
        intro j
        rw [List.getElem?_map]
        by_cases hj : j < m
        · rw [List.getElem?_range hj, (hat j hj).2]; rfl
        · rw [List.getElem?_eq_none (by simp; omega), List.getElem?_eq_none (by omega)]; rfl
      rw [this]
    · refine List.pairwise_iff_getElem.2 fun i j hi hj hij => ?_
      rw [hlen] at hi hj
      have h1 := hs i j (Nat.zero_le _) hij hj
      unfold ltOf cmpR at h1
      rw [decide_eq_false_iff_not, hm, padI_in (hmem i hi), padI_in (hmem j hj)] at h1
      have h2 := ordG_anti ks (rs.getD d'[i]! []) (rs.getD d'[j]! [])
      have g1 : (d'.toList.map fun i => rs.getD i [])[i]? = some (rs.getD d'[i]! []) := by rw [List.getElem?_map, hdl i hi]; rfl
      have g2 : (d'.toList.map fun i => rs.getD i [])[j]? = some (rs.getD d'[j]! []) := by rw [List.getElem?_map, hdl j hj]; rfl
      rw [(List.getElem?_eq_some_iff.1 g1).2, (List.getElem?_eq_some_iff.1 g2).2]
      omega
    · have hi : i < m := by have := (List.getElem?_eq_some_iff.1 hu).1; simp at this; omega
      rw [List.getElem?_map, hdl i hi] at hu hr
      simp only [Option.map_some, Option.some.injEq] at hu hr
      subst hu hr
      rw [ex, padI_in (hmem i hi)]
      exact (hRw _ (hmem i hi)).ky hk
end Go.Proofs.YtcbenpodohjbiaaGreat
set_option linter.unusedSimpArgs false
set_option linter.unusedVariables false
set_option maxRecDepth 100000
namespace Go.Proofs.YtcbenpodohjbiaaGreat
open Go.RowKit Go.Sort

/-- A head: the row in memory, the row, its run. -/
structure Hd where
  u : Value
  r : List Val
  i : Nat
def hdN : Hd := ⟨.slice none 0 0, [], 0⟩
def hAt (L : List Hd) (j : Nat) : Hd := L.getD j hdN
theorem hAt_some {L : List Hd} {j : Nat} (h : j < L.length) : L[j]? = some (hAt L j) := by unfold hAt; rw [List.getD_eq_getElem?_getD, List.getElem?_eq_getElem h]; rfl
theorem hAt_mem {L : List Hd} {j : Nat} (h : j < L.length) : hAt L j ∈ L := List.mem_of_getElem? (hAt_some h)
theorem hAt_set {L : List Hd} {j k : Nat} {x : Hd} (h : j < L.length) : hAt (L.set j x) k = if k = j then x else hAt L k := by
  unfold hAt
  rw [List.getD_eq_getElem?_getD, List.getD_eq_getElem?_getD, List.getElem?_set]
  by_cases e : k = j
  · subst e; rw [if_pos rfl, if_pos h, if_pos rfl]; rfl
  · rw [if_neg (Ne.symm e), if_neg e]
def hSwap (L : List Hd) (p l : Nat) : List Hd := (L.set p (hAt L l)).set l (hAt L p)
theorem hSwap_at {L : List Hd} {p l : Nat} (hp : p < L.length) (hl : l < L.length) (k : Nat) : hAt (hSwap L p l) k = if k = l then hAt L p else if k = p then hAt L l else hAt L k := by
  unfold hSwap
  rw [hAt_set (by rw [List.length_set]; exact hl), hAt_set hp]
theorem hSwap_len (L : List Hd) (p l : Nat) : (hSwap L p l).length = L.length := by simp [hSwap]
theorem hSwap_perm {L : List Hd} {p l : Nat} (hp : p < L.length) (hl : l < L.length) : (hSwap L p l).Perm L := by
  unfold hSwap hAt
  rw [List.getD_eq_getElem?_getD, List.getD_eq_getElem?_getD, List.getElem?_eq_getElem hp, List.getElem?_eq_getElem hl]
  simp only [Option.getD_some]
  exact List.set_set_perm hp hl
def ohd (ks : List (Int × Bool)) (a b : Hd) : Int := ordG ks a.r b.r
/-- From i on each head is not behind its two. -/
def Hp (ks : List (Int × Bool)) (i : Nat) (L : List Hd) : Prop := ∀ j c, i ≤ j → (c = 2 * j + 1 ∨ c = 2 * j + 2) → c < L.length → ohd ks (hAt L j) (hAt L c) ≤ 0
/-- All but p, which sinks. -/
structure Hs (ks : List (Int × Bool)) (i p : Nat) (L : List Hd) : Prop where
  ge : i ≤ p
  a : ∀ j c, i ≤ j → j ≠ p → (c = 2 * j + 1 ∨ c = 2 * j + 2) → c < L.length → ohd ks (hAt L j) (hAt L c) ≤ 0
  b : ∀ j c, i ≤ j → (p = 2 * j + 1 ∨ p = 2 * j + 2) → (c = 2 * p + 1 ∨ c = 2 * p + 2) → c < L.length → ohd ks (hAt L j) (hAt L c) ≤ 0
theorem Hs.start {ks : List (Int × Bool)} {i : Nat} {L : List Hd} (h : Hp ks (i + 1) L) : Hs ks i i L :=
  ⟨Nat.le_refl _, fun j c h1 h2 h3 h4 => h j c (by omega) h3 h4, fun j c h1 h2 h3 h4 => by omega⟩
theorem Hs.done {ks : List (Int × Bool)} {i p : Nat} {L : List Hd} (h : Hs ks i p L) (hc : ∀ c, (c = 2 * p + 1 ∨ c = 2 * p + 2) → c < L.length → ohd ks (hAt L p) (hAt L c) ≤ 0) : Hp ks i L := fun j c h1 h2 h3 => by
  by_cases e : j = p
  · subst e; exact hc c h2 h3
  · exact h.a j c h1 e h2 h3
theorem Hs.sink {ks : List (Int × Bool)} {i p l : Nat} {L : List Hd} (h : Hs ks i p L) (hl : l = 2 * p + 1 ∨ l = 2 * p + 2) (hln : l < L.length) (hp : ohd ks (hAt L l) (hAt L p) ≤ 0) (hc : ∀ c, (c = 2 * p + 1 ∨ c = 2 * p + 2) → c < L.length → ohd ks (hAt L l) (hAt L c) ≤ 0) : Hs ks i l (hSwap L p l) := by
  have hpn : p < L.length := by omega
  refine ⟨by have := h.ge; omega, fun j c h1 h2 h3 h4 => ?_, fun j c h1 h2 h3 h4 => ?_⟩
  · rw [hSwap_len] at h4
    rw [hSwap_at hpn hln, hSwap_at hpn hln]
    rw [if_neg h2]
    by_cases ej : j = p
    · subst ej
      rw [if_pos rfl]
      by_cases ec : c = l
      · subst ec; rw [if_pos rfl]; exact hp
      · rw [if_neg ec, if_neg (by omega)]
        exact hc c h3 h4
    · rw [if_neg ej]
      by_cases ec : c = l
      · omega
      · rw [if_neg ec]
        by_cases ec2 : c = p
        · rw [if_pos ec2]
          subst ec2
          exact h.b j l h1 h3 hl hln
        · rw [if_neg ec2]
          exact h.a j c h1 ej h3 h4
  · rw [hSwap_len] at h4
    have ej : j = p := by omega
    subst ej
    rw [hSwap_at hpn hln, hSwap_at hpn hln, if_neg (by omega), if_pos rfl, if_neg (by omega), if_neg (by omega)]
    exact h.a l c (by have := h.ge; omega) (by omega) h3 h4
/-- The first head is not behind any. -/
theorem Hp.min {ks : List (Int × Bool)} {L : List Hd} (h : Hp ks 0 L) : ∀ j, j < L.length → ohd ks (hAt L 0) (hAt L j) ≤ 0
  | 0, _ => by unfold ohd; rw [ordG_self]; omega
  | j + 1, hj => by
    have ih := h.min (j / 2) (by omega)
    have h1 := h (j / 2) (j + 1) (Nat.zero_le _) (by omega) hj
    exact ordG_le ks _ _ _ ih h1
termination_by j => j
decreasing_by omega
def hc2 (x : Hd) : List Value := [x.u, .int .i64 (x.i : Nat)]
theorem hflat_len (L : List Hd) : (L.flatMap hc2).length = L.length * 2 := by
  induction L with
  | nil => rfl
  | cons z L ih => rw [List.flatMap_cons, List.length_append, ih]; simp [hc2]; omega
theorem hflat_at : ∀ (L : List Hd) (i j : Nat) (x : Hd), L[i]? = some x → j < 2 → (L.flatMap hc2)[i * 2 + j]? = (hc2 x)[j]?
  | [], i, j, x, h, _ => by simp at h
  | z :: L, 0, j, x, h, hj => by
    simp at h
    subst h
    rw [List.flatMap_cons, List.getElem?_append_left (by simp [hc2]; omega)]
    simp
  | z :: L, i + 1, j, x, h, hj => by
    have ih := hflat_at L i j x (by simpa using h) hj
    rw [List.flatMap_cons, List.getElem?_append_right (by simp [hc2]; omega), ← ih]
    congr 1
    simp [hc2]
    omega
theorem hflat_set : ∀ (L : List Hd) (j : Nat) (x : Hd), j < L.length → ((L.flatMap hc2).set (j * 2) x.u).set (j * 2 + 1) (.int .i64 (x.i : Nat)) = (L.set j x).flatMap hc2
  | [], j, x, h => by simp at h
  | z :: L, 0, x, _ => by simp [hc2]
  | z :: L, j + 1, x, h => by
    have ih := hflat_set L j x (by simpa using h)
    rw [List.set_cons_succ, List.flatMap_cons, List.flatMap_cons, ← ih]
    simp only [hc2, List.cons_append, List.nil_append]
    rw [show (j + 1) * 2 = j * 2 + 1 + 1 by omega, show j * 2 + 1 + 1 + 1 = (j * 2 + 1) + 1 + 1 by omega]
    simp only [List.set_cons_succ]
/-- Heads in a list of the call's own. -/
def OwnH (w : World) (v : Value) (L : List Hd) : Prop := w.ownsRow 0 120 2 v L.length (L.flatMap hc2) ∧ ∀ x ∈ L, Rw w x.u x.r
theorem OwnH.ky {F : Nat → Prop} {w w' : World} {v : Value} {L : List Hd} (h : OwnH w v L) (hk : Ky F w w') (hn : ∀ g, v.ownBlock = some g → ¬ F g) : OwnH w' v L := ⟨own_ky h.1 hk hn, fun x hx => (h.2 x hx).ky hk⟩
theorem OwnH.later {w w' : World} {v : Value} {L : List Hd} (h : OwnH w v L) (hb : Below w.heap.size w w') : OwnH w' v L := h.ky (F := fun _ => False) (Ky.of_below hb) (fun _ _ => id)
theorem OwnH.len {w : World} {g N c : Nat} {L : List Hd} (h : OwnH w (.slice (some ⟨g, 0, none⟩) N c) L) : N = L.length := by
  rcases h.1.2 with ⟨e, _⟩ | ⟨g', cap', cur, e, _⟩
  · cases e
  · injection e
theorem OwnH.at {w : World} {g N c j : Nat} {L : List Hd} (h : OwnH w (.slice (some ⟨g, 0, none⟩) N c) L) (hj : j < N) : w.cell? ⟨g, j * 2, none⟩ = some (hAt L j).u ∧ w.cell? ⟨g, j * 2 + 1, none⟩ = some (.int .i64 ((hAt L j).i : Nat)) ∧ w.frozen? ⟨g, j * 2, none⟩ = false ∧ w.frozen? ⟨g, j * 2 + 1, none⟩ = false ∧ Rw w (hAt L j).u (hAt L j).r := by
  have hN := h.len
  subst hN
  refine ⟨?_, ?_, World.ownsRow.frozenAt h.1 _, World.ownsRow.frozenAt h.1 _, h.2 _ (hAt_mem hj)⟩
  · rw [World.ownsRow.cellAt h.1 (j * 2) (by omega)]; exact hflat_at L j 0 _ (hAt_some hj) (by omega)
  · rw [World.ownsRow.cellAt h.1 (j * 2 + 1) (by omega)]; exact hflat_at L j 1 _ (hAt_some hj) (by omega)
theorem OwnH.put {w : World} {g N c j : Nat} {L : List Hd} {x : Hd} (h : OwnH w (.slice (some ⟨g, 0, none⟩) N c) L) (hj : j < N) (hx : Rw w x.u x.r) : OwnH ((w.setCell ⟨g, j * 2, none⟩ x.u).setCell ⟨g, j * 2 + 1, none⟩ (.int .i64 (x.i : Nat))) (.slice (some ⟨g, 0, none⟩) N c) (L.set j x) ∧ Ky (fun k => k = g) w ((w.setCell ⟨g, j * 2, none⟩ x.u).setCell ⟨g, j * 2 + 1, none⟩ (.int .i64 (x.i : Nat))) := by
  have hN := h.len
  subst hN
  have tg : Tg 120 w g := own_tg h.1 rfl
  have h1 := (World.ownsRow.stored h.1 (j * 2) x.u).1
  have h2 := (World.ownsRow.stored h1 (j * 2 + 1) (.int .i64 (x.i : Nat))).1
  rw [hflat_set L j x hj] at h2
  have hk : Ky (fun k => k = g) w ((w.setCell ⟨g, j * 2, none⟩ x.u).setCell ⟨g, j * 2 + 1, none⟩ (.int .i64 (x.i : Nat))) := ((Ky.refl (fun k => k = g) w).set (F := fun k => k = g) rfl tg (by decide) _ _).set (F := fun k => k = g) rfl (tg.set _ _ _) (by decide) _ _
  refine ⟨⟨by rw [List.length_set]; exact h2, fun y hy => ?_⟩, hk⟩
  rcases List.mem_or_eq_of_mem_set hy with q | q
  · exact (h.2 y q).ky hk
  · subst q; exact hx.ky hk
end Go.Proofs.YtcbenpodohjbiaaGreat

import Derived.Test.YtcbenpodohjbiaaGreatOnE
import Derived.Test.YtcbenpodohjbiaaGreatSpM
import Derived.Test.YtcbenpodohjbiaaGreatSqN
import Derived.Test.YtcbenpodohjbiaaGreatSqZ
import Derived.Test.YtcbenpodohjbiaaGreatOnK
import Derived.Test.YtcbenpodohjbiaaGreatSrB
set_option linter.unusedSimpArgs false
set_option linter.unusedVariables false
set_option maxRecDepth 100000
namespace Go.Proofs.YtcbenpodohjbiaaGreat
open Go.RowKit Go.Sort

theorem onceT_len (l : List (List Val)) : ∀ k, (onceT l k).length ≤ k
  | 0 => by simp [onceT]
  | k + 1 => by
    have ih := onceT_len l k
    rw [onceT, List.length_append]
    split <;> simp <;> omega
/-- What sorted (61) has done where each row is wanted once: W stays of rs. -/
structure Srt1 (rs W : List (List Val)) : Prop where
  st : Rs W
  mem : ∀ x, x ∈ W ↔ x ∈ rs
  len : W.length ≤ rs.length
theorem Srt1.of {rs rs' : List (List Val)} (p1 : rs'.Perm rs) (p2 : rs'.Pairwise fun x y => ordG [] x y ≤ 0) (hc : ∀ x ∈ rs, cleanR x = x) : Srt1 rs (onceP rs') := by
  obtain ⟨h1, h2⟩ := onceT_ok (L := rs') (p2.imp fun h => by rw [ordG_nil] at h; exact h) (fun x hx => hc x (p1.mem_iff.1 hx)) rs'.length (Nat.le_refl _)
  refine ⟨h1, fun x => (h2 x).trans ?_, ?_⟩
  · rw [List.take_length]; exact p1.mem_iff
  · have := onceT_len rs' rs'.length
    rw [p1.length_eq] at this
    unfold onceP
    rw [p1.length_eq]
    exact this

set_option maxHeartbeats 4000000 in
/-- sorted (61), where each row is wanted once. -/
theorem sorted_once {F : Nat → Prop} {w : World} {b y m q B : Nat} {bu : Int} {Y : Yv} {op : Option Nat} {ids : List Nat} {v : Value} {rs : List (List Val)} (h : Sw w b y m q B [] (bu, true) Y op ids F) (hL : Lst w v rs) (hn : rs.length ≤ 1048576) (hv : ∀ g, v.ownBlock = some g → ¬ F g) (hcl : ∀ x ∈ rs, cleanR x = x) (hh : (rs.length : Int) ≤ Y.held) (hm : Y.held ≤ 1048576) :
    Calls Tryz.prog 61 #[.pointer (some ⟨q, 0, none⟩), v] w fun e w' => ∃ (v' : Value) (W : List (List Val)) (k : Nat) (F' : Nat → Prop), e = .returned v' ∧ v'.ownBlock = v.ownBlock ∧ Srt1 rs W ∧ W.length + k = rs.length ∧ Lst w' v' W ∧ Nw F F' w ∧ (∀ j, F j → F' j) ∧ Sw w' b y m q B [] (bu, true) (if k = 0 then Y else Y.hold (-(k : Int))) op ids F' ∧ (∀ g, v.ownBlock = some g → ¬ F' g) ∧ Ky (fun j => F j ∨ v.ownBlock = some j) w w' := by
  have hS := h
  obtain ⟨h1, h2, F0, vS, h3, h4, h5, h6, h7, h8, h9⟩ := h
  obtain ⟨a, c, rfl⟩ := hL.form
  obtain ⟨W, hW⟩ : ∃ W, w.alloc (.cells #[.pointer (some ⟨q, 0, none⟩)] 86) = W := ⟨_, rfl⟩
  have hbW : Below w.heap.size w W := by rw [← hW]; exact below_alloc (Below.refl _ _) _
  have e0 : W.cell? ⟨w.heap.size, 0, none⟩ = some (.pointer (some ⟨q, 0, none⟩)) := by rw [← hW]; simp [go_sem]
  have c1 := clater h7.c1 hbW
  have hk0 : Ky (fun _ => False) w W := Ky.of_below hbW
  obtain ⟨N, hN⟩ : ∃ N, rs.length = N := ⟨_, rfl⟩
  have HR := hide (rsort_any (hL.later hbW) (h9.ky hk0) hn)
  have nw : ¬ (Value.slice a rs.length c).ownBlock = some w.heap.size := fun e => by have := (hL.tg e).lt; omega
  have nq : ¬ (Value.slice a rs.length c).ownBlock = some q := fun e => hv q e h2
  have ny : ¬ (Value.slice a rs.length c).ownBlock = some y := fun e => (hL.tg e).ne h6.tgy (by decide) rfl
  have HQ := hide (h7.ky hk0 id)
  have HS := hide (hS.later hbW)
  have HV := hide hv
  have HO := hide (h9.ky hk0)
  have HB0 := hide hbW
  have HLT : Hid (∀ g, (Value.slice a rs.length c).ownBlock = some g → g < w.heap.size) := fun g e => (hL.tg e).lt
  have HCL := hide hcl
  rw [hN] at HR nw nq ny HV HLT hh hn ⊢
  have HN := hide hN
  clear hS h6 h7 h8 h9 hL hv h5 h3 hcl hN
  go_enter Tryz.func61, Tryz.ntmps61
  go_wp2_with (first
    | (go_at_call 93; refine (unhide HR).mono ?_; rintro _ w1 ⟨rfl, rs', p1, p2, p3, p4⟩; have d0 := p4.cell e0 nw; have d2 := p4.cell (unhide HQ).c2 nq; have HC := hide (compact_any (C := w.heap.size) (q := q) (B := B) p3 ⟨d0, p4.cell (unhide HQ).c1 nq, (unhide HO).ky p4⟩ (by rw [p1.length_eq, unhide HN]; exact hn) (fun g e => ⟨fun e' => nw (by rw [← e']; exact e), fun e' => nq (by rw [← e']; exact e)⟩)); have HT := hide (Srt1.of p1 p2 (unhide HCL)); have HD0 := hide (p4.cell (unhide HQ).c0 nq); have HS1 := hide ((unhide HS).ky p4 (unhide HV) ny); have HP4 := hide p4; clear p1 p2 p3 p4)
    | (go_at_call 94; refine (unhide HC).mono ?_; rintro _ w2 ⟨v', rfl, l1, l2, l3⟩; obtain ⟨a', c', rfl⟩ := l1.form; have g0 := l3.cell d0 nw; have g1 := l3.cell (unhide HD0) nq; have HS2 := hide ((unhide HS1).ky l3 (unhide HV) ny); have HM := hide (show (onceP rs').length ≤ N by rw [← unhide HN]; exact (unhide HT).len); obtain ⟨M, hM⟩ : ∃ M, (onceP rs').length = M := ⟨_, rfl⟩; rw [hM] at HM l1 l2 ⊢; have HL1 := hide l1; have HL2 := hide l2; have HL3 := hide l3; have HMM := hide hM; obtain ⟨k, hk⟩ : ∃ k, N = M + k := ⟨N - M, by have := unhide HM; omega⟩; have esub : (N : Int) - (M : Int) = (k : Int) := (by omega); have hMb : M ≤ 1048576 := (by omega); have HK := hide hk; clear l1 l2 l3 hM hk; obtain ⟨s1, s2, S0, vT, s3, s4, s5, s6, s7, s8, s9⟩ := unhide HS2; have HG := hide (letGo_any s6 k (by have := unhide HK; omega) hm); have HS7 := hide s7; have HS8 := hide s8; have HS9 := hide s9; have HS6 := hide s6; have HS5 := hide s5; have HS3 := hide s3; clear s7 s8 s9 s6 s5 s3)
    | (go_at_call 96; refine (unhide HG).mono ?_; rintro _ w3 ⟨rfl, hY⟩; have HY := hide hY; clear hY))
  go_ret
  have hso := Sw.under (ks := []) s1 s2 (unhide HS3) s4 (unhide HS5) (unhide HS7) (unhide HS8) (unhide HS9) (unhide HS6).tgy (unhide HY)
  obtain ⟨F', f1, f2, f3, f4⟩ := hso
  have hkk : Ky (fun j => (Value.slice a N c).ownBlock = some j) w w2 := ((Ky.of_below (unhide HB0)).trans (unhide HP4) (Nw.refl _ _)).trans (unhide HL3) (Nw.refl _ _)
  have hvF : ∀ g, (Value.slice a N c).ownBlock = some g → ¬ F' g := fun g e q => by
    rcases f1 g q with r | r
    · exact unhide HV g e r
    · have := unhide HLT g e
      have := hkk.size
      omega
  refine ⟨_, onceP rs', k, F', rfl, unhide HL2, unhide HT, by rw [unhide HMM]; exact (unhide HK).symm, (unhide HL1).ky f4 (fun g e r => unhide HV g (by rw [← unhide HL2]; exact e) r), fun j hj => ?_, f2, f3, hvF, (hkk.mono fun j e => .inr e).trans (f4.mono fun j e => .inl e) (Nw.refl _ _)⟩
  rcases f1 j hj with r | r
  · exact .inl r
  · exact .inr (by have := hkk.size; omega)
end Go.Proofs.YtcbenpodohjbiaaGreat
set_option linter.unusedSimpArgs false
set_option linter.unusedVariables false
namespace Go.Proofs.YtcbenpodohjbiaaGreat

/-- What gather has done with k of the rows, where each is wanted once: ms are the masses of the runs that were laid, hm that of what is held. -/
structure Gth1 (rs : List (List Val)) (k : Nat) (hand : List (List Val)) (BU : Nat) (Y0 Y : Yv) (ids ms : List Nat) (hw : Nat) : Prop where
  rd : Y.rd = false
  rf : Y.rf = Y0.rf
  cd : Y.cd = Y0.cd
  out : Y.out = Y0.out
  held : Y.held = hand.length
  most : Y.most ≤ BU
  hm : Y.held ≤ Y.most
  lt : hand.length < BU
  runs : ∀ r ∈ Y.runs, r ≠ [] ∧ r.Pairwise fun x y => ordG [] x y ≤ 0
  eids : ids = List.range Y.runs.length
  there : Y.there = List.replicate Y.runs.length true
  mem : ∀ x, (x ∈ Y.runs.flatten ∨ x ∈ hand) ↔ x ∈ (rs.take k).map cleanR
  lens : Lens Y.runs ids ms
  big : ∀ z ∈ ms, BU ≤ z
  tot : ms.sum + hw = k
  hl : hand.length ≤ hw
  puts : Y.puts = Y.runs.flatten.length
theorem sum_big {BU : Nat} : ∀ {ms : List Nat}, (∀ z ∈ ms, BU ≤ z) → ms.length * BU ≤ ms.sum
  | [], _ => by simp
  | z :: ms, h => by
    have ih := sum_big (ms := ms) (fun y hy => h y (by simp [hy]))
    have h1 := h z (by simp)
    rw [List.length_cons, List.sum_cons, Nat.add_mul]
    omega
theorem Gth1.count {rs hand : List (List Val)} {k BU : Nat} {Y0 Y : Yv} {ids ms : List Nat} {hw : Nat} (h : Gth1 rs k hand BU Y0 Y ids ms hw) : Y.runs.length * BU + hw ≤ k ∧ Y.runs.flatten.length ≤ k ∧ ms.length = Y.runs.length := by
  have h1 := sum_big h.big
  have h2 := h.tot
  have h3 : ms.length = Y.runs.length := by rw [← h.lens.1, h.eids, List.length_range]
  have h4 := h.lens.sum
  rw [h.eids, rowsOf_range] at h4
  rw [h3] at h1
  exact ⟨by omega, by omega, h3⟩
theorem Gth1.clean {rs hand : List (List Val)} {k BU : Nat} {Y0 Y : Yv} {ids ms : List Nat} {hw : Nat} (h : Gth1 rs k hand BU Y0 Y ids ms hw) : ∀ x, x ∈ Y.runs.flatten ∨ x ∈ hand → cleanR x = x := fun x hx => by
  obtain ⟨z, _, rfl⟩ := List.mem_map.1 ((h.mem x).1 hx)
  exact cleanR_clean z
theorem Gth1.start (rs : List (List Val)) (BU : Nat) (rf cd : Int) (hb : 4 ≤ BU) : Gth1 rs 0 [] BU (Yv.new rf cd) (Yv.new rf cd) [] [] 0 :=
  ⟨rfl, rfl, rfl, rfl, rfl, by show (0 : Int) ≤ _; omega, Int.le_refl _, by simp; omega, fun r hr => by simp [Yv.new] at hr, rfl, rfl, fun x => by simp [Yv.new], ⟨rfl, fun j i z hi => by simp at hi⟩, fun z hz => by simp at hz, rfl, by simp, rfl⟩
theorem mem_more {rs A B : List (List Val)} {k : Nat} {r : List Val} (hx : rs[k]? = some r) (h : ∀ x, (x ∈ A ∨ x ∈ B) ↔ x ∈ (rs.take k).map cleanR) : ∀ x, (x ∈ A ∨ x ∈ B ++ [cleanR r]) ↔ x ∈ (rs.take (k + 1)).map cleanR := fun x => by
  rw [List.take_add_one, hx, List.map_append, List.mem_append, List.mem_append, ← h x]
  simp only [Option.toList_some, List.map_cons, List.map_nil]
  exact or_assoc.symm
/-- One more row is held. -/
theorem Gth1.more {rs hand : List (List Val)} {k BU : Nat} {Y0 Y Y1 : Yv} {ids ms : List Nat} {hw : Nat} {r : List Val} (h : Gth1 rs k hand BU Y0 Y ids ms hw) (hx : rs[k]? = some r) (hlt : hand.length + 1 < BU) (h1 : Y1 = Y.tick.hold 1) (hh : Y.hit = false) : Gth1 rs (k + 1) (hand ++ [cleanR r]) BU Y0 Y1 ids ms (hw + 1) := by
  subst h1
  have e1 : (Y.tick.hold 1).held = Y.held + 1 := rfl
  have e2 : (Y.tick.hold 1).most = if Y.held + 1 > Y.most then Y.held + 1 else Y.most := rfl
  have b1 := h.held
  have b2 := h.most
  have b3 := h.hm
  have b4 := h.tot
  have b5 := h.hl
  exact ⟨hh, h.rf, h.cd, h.out, by rw [e1, b1, List.length_append]; simp, by rw [e2]; split <;> omega, by rw [e1, e2]; split <;> omega, by rw [List.length_append]; simpa using hlt, h.runs, h.eids, h.there, mem_more hx h.mem, h.lens, h.big, by omega, by rw [List.length_append]; simp; omega, h.puts⟩
/-- What letting go of d rows leaves of the yard. -/
structure Less (Y1 Y2 : Yv) (d : Nat) : Prop where
  held : Y2.held = Y1.held - d
  most : Y2.most = Y1.most
  rd : Y2.rd = Y1.rd
  rf : Y2.rf = Y1.rf
  cd : Y2.cd = Y1.cd
  out : Y2.out = Y1.out
  runs : Y2.runs = Y1.runs
  there : Y2.there = Y1.there
  puts : Y2.puts = Y1.puts
  calls : Y2.calls = Y1.calls
theorem less_of (Y : Yv) (d : Nat) (h : Y.held ≤ Y.most) : Less Y (if d = 0 then Y else Y.hold (-(d : Int))) d := by
  by_cases e : d = 0
  · subst e; rw [if_pos rfl]; exact ⟨by simp, rfl, rfl, rfl, rfl, rfl, rfl, rfl, rfl, rfl⟩
  · rw [if_neg e]
    exact ⟨by show Y.held + -(d : Int) = _; omega, hold_most (by omega), rfl, rfl, rfl, rfl, rfl, rfl, rfl, rfl⟩
/-- The same rows stood there several times: reading goes on. -/
theorem Gth1.stay {rs hand W : List (List Val)} {k BU : Nat} {Y0 Y Y1 Y2 : Yv} {ids ms : List Nat} {hw d : Nat} {r : List Val} (h : Gth1 rs k hand BU Y0 Y ids ms hw) (hx : rs[k]? = some r) (hlt : hand.length + 1 ≤ BU) (h1 : Y1 = Y.tick.hold 1) (hh : Y.hit = false) (hs : Srt1 (hand ++ [cleanR r]) W) (hd : W.length + d = hand.length + 1) (hl : Less Y1 Y2 d) (hW : W.length < BU) : Gth1 rs (k + 1) W BU Y0 Y2 ids ms (hw + 1) := by
  subst h1
  have e1 : (Y.tick.hold 1).held = Y.held + 1 := rfl
  have e2 : (Y.tick.hold 1).most = if Y.held + 1 > Y.most then Y.held + 1 else Y.most := rfl
  have b1 := h.held
  have b2 := h.most
  have b3 := h.hm
  have b4 := h.tot
  have b5 := h.hl
  have er : Y2.runs = Y.runs := hl.runs
  refine ⟨hl.rd.trans hh, hl.rf.trans h.rf, hl.cd.trans h.cd, hl.out.trans h.out, by rw [hl.held, e1, b1]; omega, by rw [hl.most, e2]; split <;> omega, by rw [hl.held, hl.most, e1, e2]; split <;> omega, hW, by rw [er]; exact h.runs, by rw [er]; exact h.eids, by rw [er, hl.there]; exact h.there, fun x => ?_, by rw [er]; exact h.lens, h.big, by omega, by omega, by rw [er, hl.puts]; exact h.puts⟩
  rw [er, ← mem_more hx h.mem x, hs.mem x]
/-- All that is held is laid into a run. -/
theorem Gth1.lay {rs hand W : List (List Val)} {k BU : Nat} {Y0 Y Y1 Y2 Y3 : Yv} {ids ms : List Nat} {hw d : Nat} {r : List Val} (h : Gth1 rs k hand BU Y0 Y ids ms hw) (hx : rs[k]? = some r) (hlt : hand.length + 1 = BU) (h1 : Y1 = Y.tick.hold 1) (hs : Srt1 (hand ++ [cleanR r]) W) (hd : W.length + d = hand.length + 1) (hl : Less Y1 Y2 d) (hW : W ≠ []) (hla : Laid W Y2 Y3) (hb : 4 ≤ BU) : Gth1 rs (k + 1) [] BU Y0 Y3 (ids ++ [Y.runs.length]) (ms ++ [hw + 1]) 0 := by
  subst h1
  have e1 : (Y.tick.hold 1).held = Y.held + 1 := rfl
  have e2 : (Y.tick.hold 1).most = if Y.held + 1 > Y.most then Y.held + 1 else Y.most := rfl
  have b1 := h.held
  have b2 := h.most
  have b3 := h.hm
  have b4 := h.tot
  have b5 := h.hl
  have er : Y3.runs = Y.runs ++ [W] := by rw [hla.runs, hl.runs]; rfl
  have hheld : Y3.held = 0 := by rw [hla.held, hl.held, e1, b1]; omega
  have hids := h.eids
  refine ⟨hla.rd, hla.rf.trans (hl.rf.trans h.rf), hla.cd.trans (hl.cd.trans h.cd), hla.out.trans (hl.out.trans h.out), by rw [hheld]; rfl, by rw [hla.most, hl.most, e2]; split <;> omega, by rw [hheld, hla.most, hl.most, e2]; split <;> omega, by simp; omega, fun x hx' => ?_, ?_, ?_, fun x => ?_, ?_, fun z hz => ?_, ?_, by simp, ?_⟩
  · rw [er] at hx'
    rcases List.mem_append.1 hx' with q | q
    · exact h.runs x q
    · simp at q; subst q; exact ⟨hW, hs.st.imp fun hxy => by rw [ordG_nil]; omega⟩
  · rw [er, List.length_append, hids]; simp [List.range_succ]
  · rw [hla.there, hl.there, er, List.length_append]
    show Y.there ++ [true] = _
    rw [h.there]; simp [List.replicate_succ']
  · rw [er, ← mem_more hx h.mem x, List.flatten_append, List.mem_append, ← hs.mem x]
    simp
  · refine (h.lens.cong fun i hi => ?_).snoc ?_
    · rw [hids] at hi
      have := List.mem_range.1 hi
      rw [er, List.getD_eq_getElem?_getD, List.getD_eq_getElem?_getD, List.getElem?_append_left this]
    · rw [er, List.getD_eq_getElem?_getD, List.getElem?_append_right (Nat.le_refl _), Nat.sub_self]
      show W.length ≤ _
      omega
  · rcases List.mem_append.1 hz with q | q
    · exact h.big z q
    · simp at q; omega
  · rw [List.sum_append]
    simp only [List.sum_cons, List.sum_nil]
    omega
  · rw [hla.puts, hl.puts, er, List.flatten_append, List.length_append]
    show Y.puts + _ = _
    rw [h.puts]; simp
end Go.Proofs.YtcbenpodohjbiaaGreat
set_option linter.unusedSimpArgs false
set_option linter.unusedVariables false
namespace Go.Proofs.YtcbenpodohjbiaaGreat

theorem Lens.cons {R : List (List (List Val))} {ids ms : List Nat} {i m : Nat} (h : Lens R ids ms) (hm : (R.getD i []).length ≤ m) : Lens R (i :: ids) (m :: ms) :=
  ⟨by rw [List.length_cons, List.length_cons, h.1], fun j x y hx hy => by
    cases j with
    | zero => simp at hx hy; subst hx hy; exact hm
    | succ j => exact h.2 j x y (by simpa using hx) (by simpa using hy)⟩
/-- What gather and layRest leave is to be merged, where each row is wanted once. -/
theorem Q1.start {rs hand : List (List Val)} {BU k : Nat} {Y0 Y Y1 : Yv} {ids ids1 ms : List Nat} {hw : Nat} (h : Gth1 rs rs.length hand BU Y0 Y ids ms hw) (hs : Rs hand) (hBU : 4 ≤ BU) (hi0 : 0 < ids.length) (hk : rs.length ≤ (BU - 1) ^ (k + 1)) (hc : (hand = [] ∧ Y1 = Y ∧ ids1 = ids) ∨ (hand ≠ [] ∧ Laid hand Y Y1 ∧ ids1 = Y.runs.length :: ids)) :
    (∃ ms1, Q1 BU k (rs.map cleanR) rs.length (rs.length / 2 + 2) Y0 Y1 ids1 (List.replicate ids1.length 1) ms1) ∧ 0 < ids1.length := by
  obtain ⟨hcnt, hfl, hml⟩ := h.count
  have hids := h.eids
  have hil : ids.length = Y.runs.length := by rw [hids, List.length_range]
  obtain ⟨d, hd⟩ : ∃ d, BU = d + 1 := ⟨BU - 1, by omega⟩
  have hd1 : BU - 1 = d := by omega
  rw [hd1] at hk
  have hpe := h.mem
  rw [List.take_length] at hpe
  have hcl := h.clean
  have htot := h.tot
  have hhl' := h.hl
  have hrun : ∀ i, i < Y.runs.length → ∃ r, Y.runs[i]? = some r ∧ r ≠ [] ∧ r.Pairwise (fun x y => ordG [] x y ≤ 0) ∧ ∀ x ∈ r, cleanR x = x := fun i hi => by
    refine ⟨Y.runs[i], List.getElem?_eq_getElem hi, (h.runs _ (List.getElem_mem hi)).1, (h.runs _ (List.getElem_mem hi)).2, fun x hx => hcl x (.inl (List.mem_flatten.2 ⟨_, List.getElem_mem hi, hx⟩))⟩
  have hthr : ∀ i, i < Y.runs.length → Y.there[i]? = some true := fun i hi => by rw [h.there, List.getElem?_replicate, if_pos hi]
  have h4 : Y.runs.length * 4 ≤ Y.runs.length * BU := Nat.mul_le_mul_left _ hBU
  have hdn : d < rs.length := by
    have : 1 * BU ≤ Y.runs.length * BU := Nat.mul_le_mul_right _ (by omega)
    omega
  have hhm := h.hm
  have hhd := h.held
  have hls := h.lens.sum
  rw [hids, rowsOf_range] at hls
  rcases hc with ⟨e1, e2, e3⟩ | ⟨e1, e2, e3⟩
  · rw [e1] at hhd hpe
    rw [e2, e3]
    simp only [List.length_nil] at hhd
    have hfit := runs_fit (t := Y.runs.length) (d := d) (k := k) (n := rs.length) (by omega) (by rw [← hd]; omega) hdn hk
    refine ⟨⟨ms, h.rd, h.rf, h.cd, h.out, by simpa using hhd, by omega, h.most, by rw [hids]; exact List.nodup_range, fun i hi => ?_, fun i hi => ?_, fun i hi => ?_, fun x => ?_, h.lens, by omega, ?_, by simp, by rw [h.puts]; omega, ?_, by omega⟩, by omega⟩
    · rw [hids] at hi
      have hi := List.mem_range.1 hi
      obtain ⟨r, r1, r2, _⟩ := hrun i hi
      refine ⟨hthr i hi, ?_⟩
      cases r with
      | nil => exact absurd rfl r2
      | cons x t => exact ⟨x, t, r1⟩
    · rw [hids] at hi
      obtain ⟨r, r1, r2, r3, r4⟩ := hrun i (List.mem_range.1 hi)
      rw [getD_of r1]; exact r3
    · rw [hids] at hi
      obtain ⟨r, r1, r2, r3, r4⟩ := hrun i (List.mem_range.1 hi)
      rw [getD_of r1]; exact r4
    · rw [hids, rowsOf_range, ← hpe x]; simp
    · rw [hd1, hil]
      exact Lab.start (by omega) hfit.2 hfit.1
    · rw [hil, ← hml, dot_ones, h.puts]
      omega
  · have er : Y1.runs = Y.runs ++ [hand] := e2.runs
    have hhl : 0 < hand.length := by
      cases hand with
      | nil => exact absurd rfl e1
      | cons x t => simp
    have hfit := runs_fit (t := Y.runs.length + 1) (d := d) (k := k) (n := rs.length) (by omega) (by rw [Nat.add_mul, ← hd]; omega) hdn hk
    have hlen : ids1.length = Y.runs.length + 1 := by rw [e3, List.length_cons, hil]
    have hg : ∀ i, i < Y.runs.length → Y1.runs[i]? = Y.runs[i]? := fun i hi => by rw [er, List.getElem?_append_left hi]
    have hgl : Y1.runs[Y.runs.length]? = some hand := by rw [er, List.getElem?_append_right (Nat.le_refl _), Nat.sub_self]; rfl
    have hmem : ∀ i ∈ ids1, i < Y.runs.length ∨ i = Y.runs.length := fun i hi => by
      rw [e3, hids] at hi
      rcases List.mem_cons.1 hi with q | q
      · exact .inr q
      · exact .inl (List.mem_range.1 q)
    have hrows : rowsOf Y1.runs ids1 = hand ++ Y.runs.flatten := by rw [e3, hids, er]; exact rowsOf_snoc _ _
    refine ⟨⟨hw :: ms, e2.rd, e2.rf.trans h.rf, e2.cd.trans h.cd, e2.out.trans h.out, by rw [e2.held, hhd]; omega, by rw [e2.most]; omega, by rw [e2.most]; exact h.most, ?_, fun i hi => ?_, fun i hi => ?_, fun i hi => ?_, fun x => ?_, ?_, by rw [List.sum_cons]; omega, ?_, by simp, by rw [e2.puts, h.puts]; omega, ?_, by rw [er, List.length_append, hlen]; simp only [List.length_cons, List.length_nil]; omega⟩, by omega⟩
    · rw [e3, hids, List.nodup_cons]
      exact ⟨fun q => by have := List.mem_range.1 q; omega, List.nodup_range⟩
    · rcases hmem i hi with q | q
      · obtain ⟨r, r1, r2, _⟩ := hrun i q
        refine ⟨by rw [e2.there, List.getElem?_append_left (by rw [h.there, List.length_replicate]; exact q)]; exact hthr i q, ?_⟩
        rw [hg i q]
        cases r with
        | nil => exact absurd rfl r2
        | cons x t => exact ⟨x, t, r1⟩
      · subst q
        refine ⟨?_, ?_⟩
        · rw [e2.there, List.getElem?_append_right (by rw [h.there, List.length_replicate]; exact Nat.le_refl _), h.there, List.length_replicate, Nat.sub_self]; rfl
        · rw [hgl]
          cases hand with
          | nil => exact absurd rfl e1
          | cons x t => exact ⟨x, t, rfl⟩
    · rcases hmem i hi with q | q
      · obtain ⟨r, r1, r2, r3, r4⟩ := hrun i q
        rw [getD_of ((hg i q).trans r1)]; exact r3
      · subst q; rw [getD_of hgl]; exact hs.imp fun hxy => by rw [ordG_nil]; omega
    · rcases hmem i hi with q | q
      · obtain ⟨r, r1, r2, r3, r4⟩ := hrun i q
        rw [getD_of ((hg i q).trans r1)]; exact r4
      · subst q; rw [getD_of hgl]; exact fun x hx => hcl x (.inr hx)
    · rw [hrows, ← hpe x, List.mem_append]; exact or_comm
    · rw [e3]
      refine (h.lens.cong fun i hi => ?_).cons (by rw [getD_of hgl]; exact hhl')
      rw [hids] at hi
      rw [List.getD_eq_getElem?_getD, List.getD_eq_getElem?_getD, hg i (List.mem_range.1 hi)]
    · rw [hd1, hlen]
      exact Lab.start (by omega) hfit.2 hfit.1
    · have e : ids1.length = (hw :: ms).length := by rw [hlen, List.length_cons, hml]
      rw [e, dot_ones, List.sum_cons, e2.puts, h.puts]
      omega
end Go.Proofs.YtcbenpodohjbiaaGreat
set_option linter.unusedSimpArgs false
set_option linter.unusedVariables false
namespace Go.Proofs.YtcbenpodohjbiaaGreat
open Go.RowKit Go.Sort

/-- What the last merge is asked, where each row is wanted once. -/
theorem mrgO_none {w : World} {b y m q B : Nat} {BU k : Nat} {A : List (List Val)} {n C : Nat} {Y0 Y : Yv} {vS : Value} {ids labs ms : List Nat} {F : Nat → Prop} {g off cap : Nat} (hQ : Q1 BU k A n C Y0 Y ids labs ms) (hT : OwnT w vS ids g off cap) (hyw : Yw w b y m Y none F) (hqx : Qx w q y B ((BU : Int), true) vS) (nq : ¬ F q) (ord : OrdF w B []) (hgF : ¬ F g) (hc1 : ids.length + 1 ≤ BU) (hb2 : BU ≤ 65536) (hk : k ≤ 20) (hC : C ≤ 1048576) (hA : n ≤ 1048576) (hout : Y0.out.length + n ≤ 1048577) (hcd : Y0.cd ≠ 0) (hb1 : 4 ≤ BU) :
    MrgB w b y m q B (BU : Int) Y none none (some ⟨g, off, none⟩) ids vS BU F := by
  have hrl := hQ.rl
  have hpl := hQ.tot
  have hp := hQ.puts hb1
  have hpk : n * k ≤ 1048576 * 20 := Nat.mul_le_mul hA hk
  have hI := hT.ids hgF ids.length
  rw [List.take_length] at hI
  exact ⟨hyw, hqx, nq, ord, hI, hQ.nd, hc1, hb2, by omega, hQ.held, hQ.m0, hQ.m1, hQ.rd, by rw [hQ.cd]; exact hcd, fun i hi => ⟨(hQ.th i hi).1, fun e => (by cases e), (hQ.th i hi).2⟩, hQ.srt, hQ.cln, fun i e => (by cases e), by omega, by rw [hQ.out]; omega, hQ.p0, by omega⟩
end Go.Proofs.YtcbenpodohjbiaaGreat
set_option linter.unusedSimpArgs false
set_option linter.unusedVariables false
set_option maxRecDepth 100000
namespace Go.Proofs.YtcbenpodohjbiaaGreat
open Go.RowKit Go.Sort

/-- alive$1 (30). -/
theorem alive1_any (n : Int) (w : World) : Calls Tryz.prog 30 #[.int .i64 n] w fun e w' => e = .returned (.slice (some ⟨w.heap.size, 0, none⟩) 1 1) ∧ RowAt w' (some ⟨w.heap.size, 0, none⟩) [Val.num n] ∧ Below w.heap.size w w' ∧ w'.heap.size = w.heap.size + 1 := by
  go_enter Tryz.func30, Tryz.ntmps30
  go_wp2
  go_ret
  refine ⟨rfl, .inr ⟨_, 0, rfl, fun i x hx => ?_⟩, below_alloc (Below.refl _ _) _, by simp⟩
  match i, hx with
  | 0, hx => simp at hx; subst hx; simp [go_sem, Val.num]
  | i + 1, hx => simp at hx
def threeR : List (List Val) := [[Val.num 3], [Val.num 1], [Val.num 2]]
def threeS : List (List Val) := [[Val.num 1], [Val.num 2], [Val.num 3]]
theorem three_clean : threeR.map cleanR = threeR := by
  simp [threeR, cleanR, cleanV, Val.num]
theorem three_srt : threeS.Pairwise fun x y => ordG [] x y ≤ 0 := by
  simp [threeS, ordG, keysV, rowsV, ordV, Val.num, cleanV, orI, cmpI]
theorem three_perm : threeS.Perm threeR := by
  unfold threeS threeR
  exact (List.perm_append_comm (l₁ := [[Val.num 1], [Val.num 2]]) (l₂ := [[Val.num 3]]))
theorem three_out {O : List (List Val)} (h1 : O.Perm (threeR.map cleanR)) (h2 : O.Pairwise fun x y => ordG [] x y ≤ 0) : O = threeS := by
  rw [three_clean] at h1
  refine srt_eq (ks := []) h2 three_srt (h1.trans three_perm.symm) (fun x hx => ?_)
  have hx' := h1.mem_iff.1 hx
  rw [← three_clean] at hx'
  obtain ⟨z, _, rfl⟩ := List.mem_map.1 hx'
  exact cleanR_clean z
/-- Three rows in memory of their own. -/
theorem three_rows {W2 W3 W4 : World} {r1 r2 r3 : Nat} (h1 : RowAt W4 (some ⟨r1, 0, none⟩) [Val.num 3]) (h2 : RowAt W4 (some ⟨r2, 0, none⟩) [Val.num 1]) (h3 : RowAt W4 (some ⟨r3, 0, none⟩) [Val.num 2]) (l1 : r1 < W4.heap.size) (l2 : r2 < W4.heap.size) (l3 : r3 < W4.heap.size) :
    ∃ B : Bs, B.Bel (W4.alloc (.cells #[.slice (some ⟨r1, 0, none⟩) 1 1, .slice (some ⟨r2, 0, none⟩) 1 1, .slice (some ⟨r3, 0, none⟩) 1 1] 70)) ∧ B.Rows (some ⟨W4.heap.size, 0, none⟩) threeR ∧ ∀ j, j ≠ r1 → j ≠ r2 → j ≠ r3 → j ≠ W4.heap.size → B.No j := by
  have hb := below_alloc (Below.refl _ W4) (.cells #[.slice (some ⟨r1, 0, none⟩) 1 1, .slice (some ⟨r2, 0, none⟩) 1 1, .slice (some ⟨r3, 0, none⟩) 1 1] 70)
  have hs : (W4.alloc (.cells #[.slice (some ⟨r1, 0, none⟩) 1 1, .slice (some ⟨r2, 0, none⟩) 1 1, .slice (some ⟨r3, 0, none⟩) 1 1] 70)).heap.size = W4.heap.size + 1 := by simp
  refine ⟨⟨W4.alloc (.cells #[.slice (some ⟨r1, 0, none⟩) 1 1, .slice (some ⟨r2, 0, none⟩) 1 1, .slice (some ⟨r3, 0, none⟩) 1 1] 70), fun k => k = r1 ∨ k = r2 ∨ k = r3 ∨ k = W4.heap.size⟩, ⟨Nat.le_refl _, fun k hx => ⟨?_, rfl⟩⟩, .inr ⟨W4.heap.size, 0, rfl, .inr (.inr (.inr rfl)), fun i r hr => ?_⟩, fun j n1 n2 n3 n4 hx => ?_⟩
  · rw [hs]
    rcases hx with e | e | e | e <;> omega
  · match i, hr with
    | 0, hr =>
      simp [threeR] at hr
      subst hr
      exact ⟨some ⟨r1, 0, none⟩, 1, by simp [go_sem], h1.later hb, fun b' off' e _ => .inl (by injection e with e; injection e with e; exact e.symm)⟩
    | 1, hr =>
      simp [threeR] at hr
      subst hr
      exact ⟨some ⟨r2, 0, none⟩, 1, by simp [go_sem], h2.later hb, fun b' off' e _ => .inr (.inl (by injection e with e; injection e with e; exact e.symm))⟩
    | 2, hr =>
      simp [threeR] at hr
      subst hr
      exact ⟨some ⟨r3, 0, none⟩, 1, by simp [go_sem], h3.later hb, fun b' off' e _ => .inr (.inr (.inl (by injection e with e; injection e with e; exact e.symm)))⟩
    | i + 3, hr => simp [threeR] at hr
  · rcases hx with e | e | e | e
    · exact n1 e
    · exact n2 e
    · exact n3 e
    · exact n4 e
/-- What Sort of the three answers. -/
theorem three_sort {w0 : Bs} {n0 : Nat} {w : World} {b s : Nat} {aR : Option Addr} (hP : Py w b (Yv.new 0 0) none (fun j => j = b)) (hSt : Stm w0 w s b aR 3 threeR 0) (hI : w0.Rows aR threeR) (hb0 : w0.No b) (hbn : n0 ≤ b) (hs0 : w0.No s) (hsn : n0 ≤ s) (hw0 : n0 ≤ w.heap.size) :
    Calls Tryz.prog 7 #[.iface 66 (.pointer (some ⟨s, 0, none⟩)), .slice none 0 0, .int .i64 4, .iface 24 (.pointer (some ⟨b, 0, none⟩)), .iface 24 (.pointer (some ⟨b, 0, none⟩))] w fun e w' => e = .returned (.int .i64 0) ∧ Below n0 w w' ∧ ∃ g c ra ka rb oa rd kd re od, w'.cell? ⟨b, 3, none⟩ = some (.slice (some ⟨g, 0, none⟩) 3 c) ∧ w'.cell? ⟨g, 0, none⟩ = some (.slice ra 1 ka) ∧ ra = some ⟨rb, oa, none⟩ ∧ w'.cell? ⟨rb, oa + 1, none⟩ = some (.int .i64 1) ∧ w'.cell? ⟨g, 2, none⟩ = some (.slice rd 1 kd) ∧ rd = some ⟨re, od, none⟩ ∧ w'.cell? ⟨re, od + 1, none⟩ = some (.int .i64 3) := by
  have h := Sort_any (k := 0) (ks := []) (aK := none) (cK := 0) (bu := 4) hP hSt hI hb0 hbn hs0 hsn hw0 (by simp [threeR]) (fun r hr => by simp [threeR] at hr; rcases hr with rfl | rfl | rfl <;> simp) (.inl rfl) (by simp) (fun x hx => by simp at hx) (.inr ⟨rfl, by simp [threeR]⟩) (fun _ => by simp [threeR]) (by omega)
  refine h.mono ?_
  rintro _ w' ⟨c, Y', F', rfl, hPy, hbel, hc⟩
  have hok : okB [] 4 = true := by simp [okB, keysB]
  rcases hc with ⟨h1, _⟩ | ⟨_, h2, h3, h4, h5, h6⟩
  · rw [hok] at h1; cases h1
  · rcases h6 with ⟨rfl, hs⟩ | ⟨_, hne, _⟩
    · obtain ⟨O, o1, o2, o3⟩ := hs.out
      have hO := three_out o2 o3
      have hout : Y'.out = threeS := by rw [o1, hO]; rfl
      obtain ⟨_, vO, vR, vT, us, hB, hl⟩ := hPy
      have hLo := hl.o
      rw [hout] at hLo
      obtain ⟨g, cc, ra, ka, ev, d0, _, hr0, _⟩ := hLo.get (i := 0) (r := [Val.num 1]) rfl
      obtain ⟨g', cc', rd, kd, ev', d2, _, hr2, _⟩ := hLo.get (i := 2) (r := [Val.num 3]) rfl
      rw [ev] at ev'
      injection ev' with e1 _ _
      injection e1 with e1
      injection e1 with e1
      subst e1
      have c3 := hB.c3
      rw [ev] at c3
      rcases hr0 with q | ⟨rb, oa, ea, _, q⟩
      · cases q
      · rcases hr2 with q' | ⟨re, od, ed, _, q'⟩
        · cases q'
        · have q1 := (q 0 _ rfl).2.1
          have q2 := (q' 0 _ rfl).2.1
          simp only [Nat.zero_mul, Nat.add_zero] at q1 q2
          exact ⟨rfl, hbel, g, cc, ra, ka, rb, oa, rd, kd, re, od, c3, d0, ea, q1, d2, ed, q2⟩
    · exact absurd rfl hne
end Go.Proofs.YtcbenpodohjbiaaGreat
set_option linter.unusedSimpArgs false
set_option linter.unusedVariables false
set_option maxRecDepth 100000
namespace Go.Proofs.YtcbenpodohjbiaaGreat
open Go.RowKit Go.Sort

set_option maxHeartbeats 4000000 in
/-- alive (12). -/
theorem alive_any (w : World) : Calls Tryz.prog 12 #[] w fun e w' => e = .returned (.bool true) ∧ Below w.heap.size w w' := by
  have HC5 := hide (pnew_any 0 0 w)
  have HA := hide (fun (W : World) => alive1_any 3 W)
  have HBB := hide (fun (W : World) => alive1_any 1 W)
  have HCC := hide (fun (W : World) => alive1_any 2 W)
  go_enter Tryz.func12, Tryz.ntmps12
  go_wp2_with (first
    | (go_at_call 5; refine (unhide HC5).mono ?_; rintro _ w1 ⟨rfl, hb1, hP1, hs1⟩; have HB1 := hide hb1; have HP1 := hide hP1; have HS1 := hide hs1; clear hb1 hP1 hs1)
    | (go_at_call_of 30 (Value.int .i64 3); refine (unhide HA _).mono ?_; rintro _ w2 ⟨rfl, hr2, hb2, hs2⟩; have HR2 := hide hr2; have HB2 := hide hb2; have HS2 := hide hs2; clear hr2 hb2 hs2)
    | (go_at_call_of 30 (Value.int .i64 1); refine (unhide HBB _).mono ?_; rintro _ w3 ⟨rfl, hr3, hb3, hs3⟩; have HR3 := hide hr3; have HB3 := hide hb3; have HS3 := hide hs3; clear hr3 hb3 hs3)
    | (go_at_call_of 30 (Value.int .i64 2); refine (unhide HCC _).mono ?_; rintro _ w4 ⟨rfl, hr4, hb4, hs4⟩; have HR4 := hide hr4; have HB4 := hide hb4; have HS4 := hide hs4; have h3R := three_rows (W2 := w2) (W3 := w3) (W4 := w4) (((unhide HR2).later (unhide HB3)).later hb4) ((unhide HR3).later hb4) hr4 (by have := unhide HS2; have := unhide HS3; omega) (by have := unhide HS3; omega) (by omega); obtain ⟨B0, hBel, hRows, hNo⟩ := h3R; have HC8 : Hid (Calls Tryz.prog 8 #[.pointer (some ⟨w.heap.size, 0, none⟩), .slice (some ⟨w4.heap.size, 0, none⟩) 3 3] _ _) := stream_any w.heap.size (some ⟨w4.heap.size, 0, none⟩) 3 threeR B0 _ hBel; have HROWS := hide hRows; have HNO := hide hNo; have HBEL := hide hBel; clear hr4 hb4 hs4 hRows hNo hBel)
    | (go_at_call 8; refine (unhide HC8).mono ?_; rintro _ w6 ⟨rfl, hb6, hSt6, hs6⟩; have es : (w4.alloc (.cells #[.slice (some ⟨w1.heap.size, 0, none⟩) 1 1, .slice (some ⟨w2.heap.size, 0, none⟩) 1 1, .slice (some ⟨w3.heap.size, 0, none⟩) 1 1] 70)).heap.size = w4.heap.size + 1 := (by simp); rw [es] at hSt6; have HB6 := hide hb6; have hbb : Below w.heap.size w w6 := (below_step (below_step (below_step (below_step (below_step (unhide HB1) (unhide HB2)) (unhide HB3)) (unhide HB4)) (below_alloc (Below.refl _ w4) _)) hb6); have hP6 := (((((unhide HP1).later (unhide HB2)).later (unhide HB3)).later (unhide HB4)).later (below_alloc (Below.refl _ w4) _)).later hb6; have hszA := (below_alloc (Below.refl _ w4) (.cells #[.slice (some ⟨w1.heap.size, 0, none⟩) 1 1, .slice (some ⟨w2.heap.size, 0, none⟩) 1 1, .slice (some ⟨w3.heap.size, 0, none⟩) 1 1] 70)).size; have HC7 := hide (three_sort (n0 := w.heap.size) hP6 hSt6 (unhide HROWS) (unhide HNO _ (by have := unhide HS1; omega) (by have := unhide HS1; have := unhide HS2; omega) (by have := unhide HS1; have := unhide HS2; have := unhide HS3; omega) (by have := unhide HS1; have := unhide HS2; have := unhide HS3; have := unhide HS4; omega)) (Nat.le_refl _) (Bs.new (unhide HBEL) (Nat.le_of_eq es)) (by have := hbb.size; have := hb6.size; have := (unhide HB1).size; have := (unhide HB2).size; have := (unhide HB3).size; have := (unhide HB4).size; omega) hbb.size); have HBB6 := hide hbb; clear hb6 hSt6 hs6 hbb hP6 hszA es)
    | (go_at_call 7; refine (unhide HC7).mono ?_; rintro _ w7 ⟨rfl, hb7, g, cc, ra, ka, rb, oa, rd, kd, re, od, d3, d4, rfl, d5, d6, rfl, d7⟩; have HB7 := hide hb7; clear hb7))
  go_ret
  exact ⟨rfl, (unhide HBB6).trans (unhide HB7)⟩
end Go.Proofs.YtcbenpodohjbiaaGreat

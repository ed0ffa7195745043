import Derived.Test.YtifohbapfciniabVecP
set_option linter.unusedSimpArgs false
set_option linter.unusedVariables false
namespace Go.Proofs.Ytifohbapfciniab
open Go.RowKit Go.Sort

def outB (n : Nat) (pl : Int) : Bool := !(decide (0 ≤ pl) && decide (pl < (n : Int)))
def pickL (X : Vc) (places : List Int) : List Val := places.map (fun pl => atV X pl.toNat)
def pickV (X : Vc) (places : List Int) : Vc × Int :=
  if goodB X = false then (.zero, 1) else if places.any (outB X.nl.length) then (.zero, 1) else (laidV X.k (pickL X places), 0)

/-- A column's box, a result's box, and a row of values that is being laid. -/
def QInv (w0 w : World) (g n k : Nat) (X : Vc) (p : Sl) (ys : List Val) : Prop :=
  PInv w0 w w0.heap.size g n k (.int .i64 X.k) (.slice p.a1 X.nl.length p.c1) (.slice p.a2 X.ns.length p.c2) (.slice p.a3 X.ss.length p.c3) ys ∧ w.rowIs (w0.heap.size + 1) 27 4 (box4 (.int .i64 0) noS noS noS)
theorem QInv.later {w0 w w' : World} {g n k : Nat} {X : Vc} {p : Sl} {ys : List Val} (h : QInv w0 w g n k X p ys) (hb : Below w.heap.size w w') : QInv w0 w' g n k X p ys := ⟨h.1.later hb, rowIs_later h.2 hb⟩
theorem QInv.step {w0 w : World} {g n k : Nat} {X : Vc} {p : Sl} {ys : List Val} {y : Val} (h : QInv w0 w g n k X p ys) (hg : w0.heap.size + 1 < g) (hy : ys[k]? = some y) :
    QInv w0 (((w.setCell ⟨g, k * 3, none⟩ (.int .i64 y.k)).setCell ⟨g, k * 3 + 1, none⟩ (.int .i64 y.n)).setCell ⟨g, k * 3 + 2, none⟩ (.string y.s)) g n (k + 1) X p ys :=
  ⟨h.1.step (by omega) (by omega) hy, ((h.2.setOther (by simp; omega) _).setOther (by simp; omega) _).setOther (by simp; omega) _⟩
theorem bb_facts {w w' : World} {a b c d : Value} (h : Below ((w.alloc (.cells #[a, b, c, d] 27)).alloc (.cells #[.int .i64 0, .slice none 0 0, .slice none 0 0, .slice none 0 0] 27)).heap.size ((w.alloc (.cells #[a, b, c, d] 27)).alloc (.cells #[.int .i64 0, .slice none 0 0, .slice none 0 0, .slice none 0 0] 27)) w') :
    w'.rowIs w.heap.size 27 4 (box4 a b c d) ∧ w'.rowIs (w.heap.size + 1) 27 4 (box4 (.int .i64 0) noS noS noS) ∧ Below w.heap.size w w' := by
  refine ⟨rowIs_later ((box4_alloc w a b c d).alloc _) h, ?_, below_step (below_alloc (below_alloc (Below.refl _ _) _) _) h⟩
  have := rowIs_later (box4_alloc (w.alloc (.cells #[a, b, c, d] 27)) (.int .i64 0) noS noS noS) h
  simpa using this
theorem below_set4' {w0 w : World} (h : Below w0.heap.size w0 w) (v0 v1 v2 v3 : Value) : Below w0.heap.size w0 ((((w.setCell ⟨w0.heap.size + 1, 0, none⟩ v0).setCell ⟨w0.heap.size + 1, 1, none⟩ v1).setCell ⟨w0.heap.size + 1, 2, none⟩ v2).setCell ⟨w0.heap.size + 1, 3, none⟩ v3) := below_set4 h (by omega) _ _ _ _

set_option maxHeartbeats 4000000 in
theorem pick_any (X : Vc) (p : Sl) (aP : Option Addr) (cP : Nat) (places : List Int) (w : World) (hs : small X) (hl : places.length ≤ 1048576) (hp : VecAt w X p) (hpl : LisAt w aP (places.map (.int .i64))) :
    Calls Try.prog 21 #[vecV X p, .slice aP places.length cP] w fun e w' => ∃ q, e = .returned (.tuple #[vecV (pickV X places).1 q, .int .i64 (pickV X places).2]) ∧ VecAt w' (pickV X places).1 q ∧ Fresh w.heap.size q ∧ Below w.heap.size w w' := by
  obtain ⟨i4, hi4, z40, z41, z42⟩ := info_parts Try.info40
  have HG : Hid (∀ w', Below w.heap.size w w' → Calls Try.prog 13 #[vecV X p] w' fun e w'' => e = .returned (.bool (goodB X)) ∧ Below w'.heap.size w' w'') := fun w' hb => good_any X p w' hs (hp.later hb)
  have HPL := hide hpl
  clear hpl
  generalize hR : pickV X places = R
  have HR := hide hR
  clear hR
  cases hg : goodB X
  · have HE : Hid (R = (Vc.zero, 1)) := by show _ = _; rw [← unhide HR, pickV, if_pos hg]
    rw [hg] at HG
    clear hg hp
    rw [vecV_open]
    go_enter Try.func21, Try.ntmps21
    go_wp2_with (go_at_call 13; refine (unhide HG _ (below_alloc (below_alloc (Below.refl _ _) _) _)).mono ?_; rintro e w1 ⟨rfl, hb1⟩; obtain ⟨hr1, hv1, hbw⟩ := bb_facts hb1; obtain ⟨r0, r1, r2, r3, f0, f1, f2, f3⟩ := box_facts hv1)
    refine bodyPost_ret (v := .tuple #[zeroVec, .int .i64 1]) (by simp [results, Try.results21, go_sem, zeroVec, *]) rfl ?_
    exact refused (unhide HE) (below_set4' hbw _ _ _ _)
  · have HT : Hid (∀ w', Below w.heap.size w w' → ∀ i, i < X.nl.length → Calls Try.prog 38 #[vecV X p, .int .i64 i] w' fun e w'' => e = .returned (atV X i).v ∧ Below w'.heap.size w' w'') := fun w' hb i hi => at_any X p w' hs hg (hp.later hb) i hi
    rw [hg] at HG
    have HGG := hide hg
    obtain ⟨l1, l2, l3⟩ := hs
    clear hg hp
    rw [vecV_open]
    go_enter Try.func21, Try.ntmps21
    go_wp2_with (first
      | (go_at_call 13; refine (unhide HG _ (below_alloc (below_alloc (Below.refl _ _) _) _)).mono ?_; rintro e w1 ⟨rfl, hb1⟩; obtain ⟨hr1, hv1, hbw⟩ := bb_facts hb1; clear hb1; have HR1 := hide hr1; have HV1 := hide hv1; have hz1 : w.heap.size + 1 < w1.heap.size := hv1.lt; clear hr1 hv1)
      | (at_make; refine wpList_make_rows _ rfl (.tmp 14) (.tmp 14) 22 rfl 40 i4 _ Try.underlying22 hi4 z40 3 z41 .i64 .i64 places.length rfl rfl (by rw [z42]; omega) (by omega) ?_)
      | fail)
    go_loopw [18] (fun i wr => ∃ k : Nat, k ≤ places.length ∧ i = .int .i64 k ∧ Hid (∀ i y, i < k → places[i]? = some y → outB X.nl.length y = false) ∧ QInv w wr w1.heap.size places.length k X p (pickL X places)) (fun i _ => places.length - (intOf i).toNat)
    case atStart => exact ⟨0, Nat.zero_le _, rfl, fun i y h => by omega, PInv.start hbw (unhide HR1) _ _ _, (unhide HV1).alloc _⟩
    case round =>
      obtain ⟨k, hk, rfl, HN, hI⟩ := hrel
      have HI := hide hI
      obtain ⟨⟨hb, hr, F, hF, hF'⟩, hv⟩ := hI
      by_cases h1 : k < places.length
      · obtain ⟨pl, hpl⟩ : ∃ pl, places[k]? = some pl := ⟨_, List.getElem?_eq_getElem h1⟩
        obtain ⟨pb, po, ea, cp⟩ := ((unhide HPL).later hb).get (k := k) (x := .int .i64 pl) (by simp [hpl])
        subst ea
        obtain ⟨r0, r1, r2, r3, _⟩ := box_facts hr
        obtain ⟨s0, s1, s2, s3, f0, f1, f2, f3⟩ := box_facts hv
        have HS := hide hpl
        have HF := hide hF
        have HBB := hide hb
        have hgz := hF.lt
        have i1 : (k : Int) < (places.length : Int) := by omega
        clear hr hF hF' hv hpl hb
        by_cases h2 : pl < 0
        · have HE : Hid (R = (Vc.zero, 1)) := by
            show _ = _
            rw [← unhide HR, pickV, if_neg (by rw [unhide HGG]; simp), if_pos (hitG (unhide HS) (by simp [outB]; omega))]
          go_wp2
          refine bodyPost_ret (v := .tuple #[zeroVec, .int .i64 1]) (by simp [results, Try.results21, go_sem, zeroVec, *]) rfl ?_
          exact refused (unhide HE) (below_set4' (unhide HBB) _ _ _ _)
        · by_cases h3 : pl < (X.nl.length : Int)
          · have HQ := hide (stepG (unhide HN) (unhide HS) (by simp [outB]; omega))
            have HC : Hid (Calls Try.prog 38 #[vecV X p, .int .i64 pl] wr fun e w'' => e = .returned (atV X pl.toNat).v ∧ Below wr.heap.size wr w'') := by
              have := unhide HT wr (unhide HBB) pl.toNat (by omega)
              have e : ((pl.toNat : Nat) : Int) = pl := by omega
              rw [e] at this
              exact this
            have HY : Hid ((pickL X places)[k]? = some (atV X pl.toNat)) := by
              show _ = _
              have := unhide HS
              simp [pickL, this]
            generalize atV X pl.toNat = y at HC HY
            go_wp2_with (go_at_call 38; refine (unhide HC).mono ?_; rintro e w2 ⟨rfl, hb2⟩; rw [Val.open_]; obtain ⟨p0, p1, p2, q0, q1, q2⟩ := three (k := k) (rowIs_later (unhide HF) hb2) (by omega))
            go_roundw
            case rel => exact ⟨k + 1, by omega, by go_num, HQ, ((unhide HI).later hb2).step (by omega) (unhide HY)⟩
            case measure => simp [intOf]; omega
          · have HE : Hid (R = (Vc.zero, 1)) := by
              show _ = _
              rw [← unhide HR, pickV, if_neg (by rw [unhide HGG]; simp), if_pos (hitG (unhide HS) (by simp [outB]; omega))]
            go_wp2
            refine bodyPost_ret (v := .tuple #[zeroVec, .int .i64 1]) (by simp [results, Try.results21, go_sem, zeroVec, *]) rfl ?_
            exact refused (unhide HE) (below_set4' (unhide HBB) _ _ _ _)
      · have i1 : ¬ (k : Int) < (places.length : Int) := by omega
        have HE : Hid (R = (laidV X.k (pickL X places), 0)) := by
          show _ = _
          have e : k = places.length := by omega
          have hq : places.any (outB X.nl.length) = false := noneG (by rw [← e]; exact unhide HN)
          rw [← unhide HR, pickV, if_neg (by rw [unhide HGG]; simp), if_neg (by rw [hq]; simp)]
        have hpl : (pickL X places).length = places.length := by simp [pickL]
        have HC : Hid (Calls Try.prog 31 #[.int .i64 X.k, .slice (some ⟨w1.heap.size, 0, none⟩) places.length places.length] wr fun e w' => ∃ q, e = .returned (vecV (laidV X.k (pickL X places)) q) ∧ VecAt w' (laidV X.k (pickL X places)) q ∧ Fresh wr.heap.size q ∧ Below wr.heap.size wr w') := by
          have e : k = places.length := by omega
          rw [e] at hF'
          have := laid_any (some ⟨w1.heap.size, 0, none⟩) places.length X.k (pickL X places) wr (by rw [hpl]; omega) (row_of_row hF hpl hF')
          rw [hpl] at this
          exact this
        obtain ⟨r0, r1, r2, r3, _⟩ := box_facts hr
        have HV := hide hv
        have HBB := hide hb
        have hzr : w.heap.size + 1 < wr.heap.size := hv.lt
        clear hr hF hF' hv hb hpl
        go_wp2_with (go_at_call 31; refine (unhide HC).mono ?_; rintro e w2 ⟨q, rfl, hv2, hq2, hb2⟩; rw [vecV_open]; obtain ⟨s0, s1, s2, s3, f0, f1, f2, f3⟩ := box_facts (rowIs_later (unhide HV) hb2))
        refine bodyPost_ret (v := .tuple #[vecV (laidV X.k (pickL X places)) q, .int .i64 0]) (by simp [results, Try.results21, go_sem, vecV, *]) rfl ?_
        rw [unhide HE]
        exact ⟨q, rfl, hv2.setO4 hq2 hzr _ _ _ _, hq2.less (by omega), below_set4' (below_step (unhide HBB) hb2) _ _ _ _⟩
end Go.Proofs.Ytifohbapfciniab

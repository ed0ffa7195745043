import Derived.Test.YthbfomcmjjnikaaGreatSgH
set_option linter.unusedSimpArgs false
set_option linter.unusedVariables false
namespace Go.Proofs.YthbfomcmjjnikaaGreat
open Go.RowKit Go.Sort

theorem Tryz.info49' : (Tryz.prog.info? 49).map (fun i => (i.zero, i.size, i.bytes)) = some (some (.agg #[.int .i64 0, .slice none 0 0, .slice none 0 0, .slice none 0 0]), 4, 80) := by kernel_rfl

/-- The columns that are made so far, in a block of the call's own. -/
structure CInv (w0 w : World) (g n : Nat) (Cs : List (Vc × Sl)) : Prop where
  bel : Below w0.heap.size w0 w
  ge : w0.heap.size ≤ g
  row : ∃ F, w.rowIs g 49 (n * 4) F ∧ ∀ (i : Nat) (c : Vc × Sl), Cs[i]? = some c → F (i * 4) = .int .i64 c.1.k ∧ F (i * 4 + 1) = .slice c.2.a1 c.1.nl.length c.2.c1 ∧ F (i * 4 + 2) = .slice c.2.a2 c.1.ns.length c.2.c2 ∧ F (i * 4 + 3) = .slice c.2.a3 c.1.ss.length c.2.c3
  vec : ∀ c ∈ Cs, VecAt w c.1 c.2 ∧ Fresh (g + 1) c.2
theorem CInv.start {w0 w : World} (h : Below w0.heap.size w0 w) (n : Nat) (z : Array Value) : CInv w0 (w.alloc (.cells (madeCells z (n * 4)) 49)) w.heap.size n [] := by
  obtain ⟨F, hF⟩ := rowIs_any w (madeCells z (n * 4)) 49
  rw [size_madeCells] at hF
  exact ⟨below_alloc h _, h.size, ⟨F, hF, fun i c hc => by simp at hc⟩, fun c hc => by simp at hc⟩
theorem CInv.later {w0 w w' : World} {g n : Nat} {Cs : List (Vc × Sl)} (h : CInv w0 w g n Cs) (hb : Below w.heap.size w w') : CInv w0 w' g n Cs := by
  obtain ⟨F, hF, hF'⟩ := h.row
  exact ⟨below_step h.bel hb, h.ge, ⟨F, rowIs_later hF hb, hF'⟩, fun c hc => ⟨(h.vec c hc).1.later hb, (h.vec c hc).2⟩⟩
theorem CInv.lt {w0 w : World} {g n : Nat} {Cs : List (Vc × Sl)} (h : CInv w0 w g n Cs) : g < w.heap.size := by
  obtain ⟨F, hF, hF'⟩ := h.row
  exact hF.lt
theorem CInv.step {w0 w : World} {g n : Nat} {Cs : List (Vc × Sl)} {X : Vc} {p : Sl} (h : CInv w0 w g n Cs) (hv : VecAt w X p) (hf : Fresh (g + 1) p) {k : Nat} (hk : Cs.length = k) :
    CInv w0 ((((w.setCell ⟨g, k * 4, none⟩ (.int .i64 X.k)).setCell ⟨g, k * 4 + 1, none⟩ (.slice p.a1 X.nl.length p.c1)).setCell ⟨g, k * 4 + 2, none⟩ (.slice p.a2 X.ns.length p.c2)).setCell ⟨g, k * 4 + 3, none⟩ (.slice p.a3 X.ss.length p.c3)) g n (Cs ++ [(X, p)]) := by
  obtain ⟨F, hF, hF'⟩ := h.row
  have sv : ∀ {Y : Vc} {q : Sl}, VecAt w Y q → Fresh (g + 1) q → VecAt ((((w.setCell ⟨g, k * 4, none⟩ (.int .i64 X.k)).setCell ⟨g, k * 4 + 1, none⟩ (.slice p.a1 X.nl.length p.c1)).setCell ⟨g, k * 4 + 2, none⟩ (.slice p.a2 X.ns.length p.c2)).setCell ⟨g, k * 4 + 3, none⟩ (.slice p.a3 X.ss.length p.c3)) Y q := fun hy hq =>
    (((hy.setO hq _ (by simp) _).setO hq _ (by simp) _).setO hq _ (by simp) _).setO hq _ (by simp) _
  refine ⟨(((h.bel.setCell h.ge _).setCell h.ge _).setCell h.ge _).setCell h.ge _, h.ge, ⟨_, (((hF.set _ _).set _ _).set _ _).set _ _, fun i c hc => ?_⟩, fun c hc => ?_⟩
  · by_cases e : i < k
    · rw [List.getElem?_append_left (by omega)] at hc
      obtain ⟨a0, a1, a2, a3⟩ := hF' i c hc
      refine ⟨?_, ?_, ?_, ?_⟩
      · rw [if_neg (by omega), if_neg (by omega), if_neg (by omega), if_neg (by omega), a0]
      · rw [if_neg (by omega), if_neg (by omega), if_neg (by omega), if_neg (by omega), a1]
      · rw [if_neg (by omega), if_neg (by omega), if_neg (by omega), if_neg (by omega), a2]
      · rw [if_neg (by omega), if_neg (by omega), if_neg (by omega), if_neg (by omega), a3]
    · have e2 : i = k := by
        have := (List.getElem?_eq_some_iff.1 hc).1
        simp at this
        omega
      subst e2
      rw [List.getElem?_append_right (by omega), hk] at hc
      simp at hc
      subst hc
      refine ⟨?_, ?_, ?_, ?_⟩ <;> simp
  · rcases List.mem_append.1 hc with m | m
    · exact ⟨sv (h.vec c m).1 (h.vec c m).2, (h.vec c m).2⟩
    · simp at m; subst m; exact ⟨sv hv hf, hf⟩
theorem CInv.cols {w0 w : World} {g n : Nat} {Cs : List (Vc × Sl)} (h : CInv w0 w g n Cs) (hn : Cs.length = n) : ColsAt w (some ⟨g, 0, none⟩) Cs := by
  obtain ⟨F, hF, hF'⟩ := h.row
  refine ⟨.inr ⟨g, 0, rfl, fun i c hc => ?_⟩, fun c hc => (h.vec c hc).1⟩
  have hi := (List.getElem?_eq_some_iff.1 hc).1
  obtain ⟨a0, a1, a2, a3⟩ := hF' i c hc
  refine ⟨?_, ?_, ?_, ?_⟩
  · rw [Nat.zero_add, hF.cell (by omega), a0]
  · rw [Nat.zero_add, hF.cell (by omega), a1]
  · rw [Nat.zero_add, hF.cell (by omega), a2]
  · rw [Nat.zero_add, hF.cell (by omega), a3]
theorem CInv.cells {w0 w : World} {g n k : Nat} {Cs : List (Vc × Sl)} (h : CInv w0 w g n Cs) (hk : k < n) : ∃ v0 v1 v2 v3, w.cell? ⟨g, k * 4, none⟩ = some v0 ∧ w.cell? ⟨g, k * 4 + 1, none⟩ = some v1 ∧ w.cell? ⟨g, k * 4 + 2, none⟩ = some v2 ∧ w.cell? ⟨g, k * 4 + 3, none⟩ = some v3 ∧ w.frozen? ⟨g, k * 4, none⟩ = false ∧ w.frozen? ⟨g, k * 4 + 1, none⟩ = false ∧ w.frozen? ⟨g, k * 4 + 2, none⟩ = false ∧ w.frozen? ⟨g, k * 4 + 3, none⟩ = false := by
  obtain ⟨F, hF, hF'⟩ := h.row
  exact ⟨_, _, _, _, hF.cell (by omega), hF.cell (by omega), hF.cell (by omega), hF.cell (by omega), hF.frozen _, hF.frozen _, hF.frozen _, hF.frozen _⟩
end Go.Proofs.YthbfomcmjjnikaaGreat
set_option linter.unusedSimpArgs false
set_option linter.unusedVariables false
namespace Go.Proofs.YthbfomcmjjnikaaGreat
open Go.RowKit Go.Sort

/-- Column i of rows, made; the error. -/
def colX (kinds : List Int) (rs : List (List Val)) (i : Nat) : Vc × Int := fromV (kinds.getD i 0) (colL rs i)
/-- What the columns are packed to. -/
structure PsX (K : Vc → ByteArray → Prop) (zf : Vc → ByteArray) (n : Nat) (X : Nat → Vc) (ps : List (ByteArray × ByteArray)) : Prop where
  len : ps.length = n
  at_ : ∀ (i : Nat) (p : ByteArray × ByteArray), ps[i]? = some p → p.1 = zf (X i) ∧ K (X i) p.2
  z : ∀ p ∈ ps, p.1.size ≤ 10000
  s : ∀ p ∈ ps, p.2.size ≤ 100000000
theorem Ps.toX {K : Vc → ByteArray → Prop} {zf : Vc → ByteArray} {Cs : List (Vc × Sl)} {ps : List (ByteArray × ByteArray)} (h : Ps K zf Cs ps) {X : Nat → Vc} (hX : ∀ (i : Nat) (c : Vc × Sl), Cs[i]? = some c → c.1 = X i) : PsX K zf Cs.length X ps := by
  refine ⟨h.len, fun i p hp => ?_, h.z, h.s⟩
  have hi : i < Cs.length := by rw [← h.len]; exact (List.getElem?_eq_some_iff.1 hp).1
  have hc := List.getElem?_eq_getElem hi
  have := h.at_ i _ p hc hp
  rwa [hX i _ hc] at this
/-- What Build answers where the kinds and the lengths are right. -/
def BAns (K : Vc → ByteArray → Prop) (zf : Vc → ByteArray) (kinds : List Int) (rs : List (List Val)) (e : Ending) : Prop :=
  (∃ i, i < kinds.length ∧ (colX kinds rs i).2 ≠ 0 ∧ (∀ j, j < i → (colX kinds rs j).2 = 0) ∧ e = .returned (.tuple #[.string ⟨#[]⟩, .int .i64 (colX kinds rs i).2])) ∨
  ((∀ j, j < kinds.length → (colX kinds rs j).2 = 0) ∧ ∃ ps, e = .returned (.tuple #[.string (segB kinds.length rs.length ps), .int .i64 0]) ∧ PsX K zf kinds.length (fun i => (colX kinds rs i).1) ps)

set_option maxHeartbeats 4000000 in
set_option maxRecDepth 100000 in
theorem build_d (K : Vc → ByteArray → Prop) (zf : Vc → ByteArray) (w : World) (kinds : List Int) (ak : Option Addr) (ck : Nat) (rs : List (List Val)) (ar : Option Addr) (cr : Nat) (C : Looks w kinds ak ck rs ar cr)
    (hak : LisAt w ak (kinds.map (Value.int .i64))) (har : RowsAt w ar rs)
    (h1 : 1 ≤ kinds.length) (h2 : kinds.length ≤ 32) (h3 : kinds.any noKB = false) (h4 : rs.length ≤ 4096) (h5 : (rs.any fun r => r.any largeTB) = false) (h6 : rs.any (oddB kinds.length) = false)
    (hC : ∀ i, i < kinds.length → (colX kinds rs i).2 = 0 → ColLaw K zf rs.length (colX kinds rs i).1) :
    Calls Tryz.prog 5 #[.slice ak kinds.length ck, .slice ar rs.length cr] w fun e w' => BAns K zf kinds rs e ∧ Below w.heap.size w w' := by
  have hbx0 : (w.alloc (.cells #[.slice ak kinds.length ck] 22)).cell? ⟨w.heap.size, 0, none⟩ = some (.slice ak kinds.length ck) := by simp [go_sem]
  obtain ⟨i4, hi4, z40, z41, z42⟩ := info_parts Tryz.info49'
  have HK := hide C.hk
  have HL := hide C.hl
  have HN := hide C.hn
  rw [h3] at HK
  rw [h5] at HL
  have hlr : ∀ r ∈ rs, r.length = kinds.length := fun r hr => by
    have := List.any_eq_false.1 h6 r hr
    simp [oddB] at this
    omega
  rw [h6] at HN
  have i1 : ¬ (kinds.length : Int) < 1 := by omega
  have i2 : ¬ (32 : Int) < (kinds.length : Int) := by omega
  have i3 : ¬ (4096 : Int) < (rs.length : Int) := by omega
  have HAK := hide hak
  have HAR := hide har
  have HC := hide hC
  have HLR := hide hlr
  clear hak har hC hlr C h3 h5 h6
  go_enter Tryz.func5, Tryz.ntmps5
  go_wp2_with (first
    | (go_at_call 22; refine (unhide HK _ (below_alloc (Below.refl _ _) _)).mono ?_; rintro _ w1 ⟨rfl, hb1⟩; have hbx1 := cell_later hb1 hbx0)
    | (go_at_call 24; refine (unhide HN w2 ((below_one hb1).trans (hb2.mono (below_one hb1).size)) hbx2).mono ?_; rintro _ w3 ⟨rfl, hb3⟩; have hbx3 := cell_later hb3 hbx2; have hbx4 : ∀ o, (w3.alloc o).cell? ⟨w.heap.size, 0, none⟩ = some (.slice ak kinds.length ck) := (fun o => cell_later (below_alloc (Below.refl _ _) o) hbx3))
    | (go_at_call 24; refine (unhide HL w1 (below_one hb1)).mono ?_; rintro _ w2 ⟨rfl, hb2⟩; have hbx2 := cell_later hb2 hbx1)
    | (at_make; refine wpList_make_rows _ rfl (.tmp 31) (.tmp 31) 66 rfl 49 i4 _ Tryz.underlying66 hi4 z40 4 z41 .i64 .i64 kinds.length rfl rfl (by rw [z42]; omega) (by omega) ?_))
  have hbw : Below w.heap.size w w3 := ((below_one hb1).trans (hb2.mono (below_one hb1).size)).trans (hb3.mono (Nat.le_trans (below_one hb1).size hb2.size))
  have S0 := hide (CInv.start hbw kinds.length #[.int .i64 0, .slice none 0 0, .slice none 0 0, .slice none 0 0])
  clear hb1 hb2 hb3 hbx0 hbx1 hbx2 hbx3 hbx4 HK HL HN
  go_loopw [35] (fun s wr => ∃ (k : Nat) (Cs : List (Vc × Sl)), s = .int .i64 (k : Int) ∧ k ≤ kinds.length ∧ Cs.length = k ∧ Hid (CInv w wr w3.heap.size kinds.length Cs) ∧ Hid (∀ (j : Nat) (c : Vc × Sl), Cs[j]? = some c → colX kinds rs j = (c.1, 0))) (fun s _ => kinds.length - (intOf s).toNat)
  case atStart => exact ⟨0, [], rfl, by omega, rfl, S0, fun j c hc => by simp at hc⟩
  case round =>
    obtain ⟨k, Cs, rfl, hk, hcl, S, HX⟩ := hrel
    clear S0
    by_cases h7 : k < kinds.length
    · have i7 : (k : Int) < (kinds.length : Int) := by omega
      obtain ⟨kd, hkd⟩ : ∃ kd, kinds[k]? = some kd := ⟨_, List.getElem?_eq_getElem h7⟩
      obtain ⟨vb, vo, rfl, q0⟩ := lis_get ((unhide HAK).later (unhide S).bel) (show (kinds.map (Value.int .i64))[k]? = some (.int .i64 kd) by simp [hkd])
      have hlt := (unhide S).lt
      have HV := hide (valuesIn_any ar cr k rs wr h4 (by omega) (fun r hr => by rw [unhide HLR r hr]; exact h7) ((unhide HAR).later (unhide S).bel))
      have hcx : colX kinds rs k = fromV kd (colL rs k) := by simp [colX, hkd]
      have HF : Hid (∀ (a' : Option Addr) (W : World), RowAt W a' (colL rs k) → Calls Tryz.prog 27 #[.int .i64 kd, .slice a' rs.length rs.length] W fun e w' => ∃ p, e = .returned (.tuple #[.agg #[.int .i64 (colX kinds rs k).1.k, .slice p.a1 (colX kinds rs k).1.nl.length p.c1, .slice p.a2 (colX kinds rs k).1.ns.length p.c2, .slice p.a3 (colX kinds rs k).1.ss.length p.c3], .int .i64 (colX kinds rs k).2]) ∧ VecAt w' (colX kinds rs k).1 p ∧ Fresh W.heap.size p ∧ Below W.heap.size W w') := fun a' W hW => by
        have hl : (colL rs k).length = rs.length := by simp [colL]
        have := from_any a' rs.length kd (colL rs k) W (by rw [hl]; omega) hW
        rw [hl] at this
        rw [hcx]
        exact this
      clear hcx hkd
      generalize hY : colX kinds rs k = Y at HF
      have HY := hide hY
      clear hY
      obtain ⟨X, er⟩ := Y
      by_cases he : er = 0
      · subst he
        go_wp2_with (first
          | (go_at_call 28; refine (unhide HV).mono ?_; rintro _ w4 ⟨a', rfl, hra, hb4⟩)
          | (go_at_call 27; refine (unhide HF a' w4 hra).mono ?_; rintro _ w5 ⟨p, rfl, hv5, hf5, hb5⟩; have S5 := hide (((unhide S).later hb4).later hb5); obtain ⟨v0, v1, v2, v3, p0, p1, p2, p3, f0, f1, f2, f3⟩ := ((unhide S5).later (below_alloc (Below.refl _ _) (.cells #[.int .i64 X.k, .slice p.a1 X.nl.length p.c1, .slice p.a2 X.ns.length p.c2, .slice p.a3 X.ss.length p.c3] 49))).cells h7))
        refine ⟨⟨k + 1, Cs ++ [(X, p)], by go_num, by omega, by simp [hcl], ((unhide S5).later (below_alloc (Below.refl _ _) _)).step (hv5.later (below_alloc (Below.refl _ _) _)) (hf5.less (by have := hb4.size; omega)) hcl, fun j c hc => ?_⟩, ?_⟩
        · by_cases hj : j < k
          · rw [List.getElem?_append_left (by omega)] at hc
            exact unhide HX j c hc
          · have e2 : j = k := by
              have := (List.getElem?_eq_some_iff.1 hc).1
              simp at this
              omega
            subst e2
            rw [List.getElem?_append_right (by omega), hcl] at hc
            simp at hc
            subst hc
            exact unhide HY
        · first | (simp [intOf]; omega) | (simp only [intOf]; omega)
      · have he2 : (er != 0) = true := by simpa using he
        go_wp2_with (first
          | (go_at_call 28; refine (unhide HV).mono ?_; rintro _ w4 ⟨a', rfl, hra, hb4⟩)
          | (go_at_call 27; refine (unhide HF a' w4 hra).mono ?_; rintro _ w5 ⟨p, rfl, hv5, hf5, hb5⟩; have S5 := hide (((unhide S).later hb4).later hb5)))
        have hZ : ∀ j, j < k → (colX kinds rs j).2 = 0 := fun j hj => by
          rw [unhide HX j _ (List.getElem?_eq_getElem (by omega))]
        refine bodyPost_ret (v := .tuple #[.string ⟨#[]⟩, .int .i64 er]) (by simp [results, Tryz.results5, go_sem]) rfl ⟨.inl ⟨k, h7, by rw [unhide HY]; exact he, hZ, by rw [unhide HY]⟩, below_alloc (unhide S5).bel _⟩
    · have i7 : ¬ (k : Int) < (kinds.length : Int) := by omega
      have hkn : k = kinds.length := by omega
      have hZ : ∀ j, j < kinds.length → (colX kinds rs j).2 = 0 := fun j hj => by
        rw [unhide HX j _ (List.getElem?_eq_getElem (by omega))]
      have HW := hide (swritten_any K zf rs.length h4 (some ⟨w3.heap.size, 0, none⟩) kinds.length Cs wr (by omega) (by omega) (fun x hx => by
        obtain ⟨j, hj⟩ := List.mem_iff_getElem?.1 hx
        have hjl := (List.getElem?_eq_some_iff.1 hj).1
        have hcx := unhide HX j x hj
        have := unhide HC j (by omega) (by rw [hcx])
        rwa [hcx] at this) ((unhide S).cols (by omega)))
      rw [hcl, hkn] at HW
      have HPX : Hid (∀ ps, Ps K zf Cs ps → PsX K zf kinds.length (fun i => (colX kinds rs i).1) ps) := fun ps h => by
        have := h.toX (X := fun i => (colX kinds rs i).1) (fun i c hc => by show c.1 = (colX kinds rs i).1; rw [unhide HX i c hc])
        rwa [hcl, hkn] at this
      have HZ := hide hZ
      clear hZ hcl hkn
      go_wp2_with (first | (go_at_call 29; refine (unhide HW).mono ?_; rintro _ w4 ⟨ps, rfl, hps, hb4⟩))
      refine bodyPost_ret (v := .tuple #[.string (segB kinds.length rs.length ps), .int .i64 0]) (by simp [results, Tryz.results5, go_sem]) rfl ⟨.inr ⟨unhide HZ, ps, rfl, unhide HPX ps (unhide hps)⟩, below_step (unhide S).bel hb4⟩
end Go.Proofs.YthbfomcmjjnikaaGreat

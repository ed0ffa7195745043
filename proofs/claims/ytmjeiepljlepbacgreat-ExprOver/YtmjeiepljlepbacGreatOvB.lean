import Derived.Test.YtmjeiepljlepbacGreatOvA
import Derived.Test.YtmjeiepljlepbacGreatTabA
import Derived.Test.YtmjeiepljlepbacGreatShelf
import Derived.Test.YtmjeiepljlepbacGreatExV
import Derived.Test.YtmjeiepljlepbacGreatRmF
set_option linter.unusedSimpArgs false
set_option linter.unusedVariables false
set_option maxRecDepth 100000
namespace Go.Proofs.YtmjeiepljlepbacGreat
open Go.RowKit Go.Sort Go.Deep

theorem cols_nat : ∀ e, goodE e → ∀ n ∈ colsE e, 0 ≤ n := fold_ind _ fun e hg ih n hn => by
  rw [colsE_eq] at hn
  rcases List.mem_append.1 hn with hn | hn
  · by_cases h1 : e.op = 1
    · have hs := (good_open hg).1
      rw [h1] at hn
      simp at hn
      subst hn
      unfold soundE at hs
      rw [h1] at hs
      simp only [Bool.and_eq_true] at hs
      simpa using hs.2
    · have e1 : (e.op == 1) = false := by simpa using h1
      rw [e1] at hn
      cases hn
  · have key : ∀ l : List Ex, (∀ x ∈ l, x ∈ e.args) → ∀ n ∈ colsL l, 0 ≤ n := by
      intro l
      induction l with
      | nil => intro _ n hn; rw [colsL] at hn; cases hn
      | cons x l ihl =>
        intro hx n hn
        rw [colsL] at hn
        rcases List.mem_append.1 hn with hn | hn
        · exact (ih x (hx x (by simp))).2 n hn
        · exact ihl (fun y hy => hx y (by simp [hy])) n hn
    exact key e.args (fun x hx => hx) n hn
/-- The columns that are used: each is one. -/
theorem used_in {e : Ex} {m : Nat} (hg : goodE e) (hu : usesB e m = true) : ∀ x ∈ uniqI (colsE e), ∃ j : Nat, x = (j : Int) ∧ j < m := fun x hx => by
  have hm := ((uniq_sd (colsE e)).2.1 x).1 hx
  have h0 := cols_nat e hg x hm
  unfold usesB at hu
  have h1 := List.all_eq_true.1 hu x hm
  simp at h1
  exact ⟨x.toNat, by omega, by omega⟩
theorem ownV_other {w : World} {base B o : Nat} {v u : Value} {L : List Val} (h : OwnV w base v L) (hB : ∀ g, v.ownBlock = some g → g ≠ B) : OwnV (w.setCell ⟨B, o, none⟩ u) base v L := by
  obtain ⟨h1, h2⟩ := h
  refine ⟨h1, ?_⟩
  rcases h2 with h2 | ⟨g, cap, cur, q1, q2, q3, q4⟩
  · exact .inl h2
  · refine .inr ⟨g, cap, cur, q1, q2, ?_, q4⟩
    rw [Below.heap_setCell _ _ _ _ (hB g (by rw [q1]; rfl))]
    exact q3
/-- The lists of the columns that are used, as they are made. -/
def LI (wx : World) (U : List Int) (pk : Int → List Val) (k : Nat) (wr : World) : Prop := Below wx.heap.size wx wr ∧ wx.heap.size < wr.heap.size ∧ ∃ F, wr.rowIs wx.heap.size 22 U.length F ∧ ∀ (j : Nat) (x : Int), j < k → U[j]? = some x → OwnV wr (wx.heap.size + 1) (F j) (pk x)
theorem LI.start (wx : World) (U : List Int) (pk : Int → List Val) : LI wx U pk 0 (wx.alloc (.cells (madeCells #[.slice none 0 0] U.length) 22)) :=
  ⟨below_alloc (Below.refl _ _) _, by simp [go_sem], _, World.rowIs_made wx (.slice none 0 0) U.length 22, fun j x hj => absurd hj (by omega)⟩
theorem LI.step {wx wr w2 : World} {U : List Int} {pk : Int → List Val} {k : Nat} {x : Int} {v : Value} (h : LI wx U pk k wr) (hx : U[k]? = some x) (hb : Below wr.heap.size wr w2) (hv : OwnV w2 wr.heap.size v (pk x)) : LI wx U pk (k + 1) (w2.setCell ⟨wx.heap.size, k, none⟩ v) := by
  obtain ⟨h1, h2, F, h3, h4⟩ := h
  have hk : k < U.length := (List.getElem?_eq_some_iff.1 hx).1
  have hr2 := Vv.rowIs_later h3 hb
  refine ⟨(below_step h1 hb).setCell (Nat.le_refl _) _, by simp only [World.setCell]; simp; have := hb.size; omega, _, hr2.set k v, fun j y hj hy => ?_⟩
  by_cases e : j = k
  · subst e
    rw [hx] at hy
    injection hy with hy
    subst hy
    have hvg : ∀ g, v.ownBlock = some g → wr.heap.size ≤ g := ownV_ge hv
    have := ownV_other (B := wx.heap.size) (o := j) (u := v) hv (fun g hg => by have := hvg g hg; omega)
    have hb' : OwnV (w2.setCell ⟨wx.heap.size, j, none⟩ v) (wx.heap.size + 1) v (pk x) := by
      obtain ⟨g1, g2⟩ := this
      refine ⟨g1, ?_⟩
      rcases g2 with g2 | ⟨g, cap, cur, q1, q2, q3⟩
      · exact .inl g2
      · exact .inr ⟨g, cap, cur, q1, by omega, q3⟩
    simpa using hb'
  · have h5 := (h4 j y (by omega) hy).later hb
    have h6 := ownV_other (B := wx.heap.size) (o := k) (u := v) h5 (fun g hg => by have := ownV_ge h5 g hg; omega)
    simpa [e] using h6
/-- A row of nulls that is made. -/
theorem own_made (w : World) (base m : Nat) (hb : base ≤ w.heap.size) (hm : m ≤ 4398046511104) : OwnV (w.alloc (.cells (madeCells (Value.cells (.agg #[.int .i64 0, .int .i64 0, .string ⟨#[]⟩])) (m * 3)) 38)) base (.slice (some ⟨w.heap.size, 0, none⟩) m m) (List.replicate m Val.null) := by
  have hc : ∀ i, i < (madeCells (Value.cells (.agg #[.int .i64 0, .int .i64 0, .string ⟨#[]⟩])) (m * 3)).size → (madeCells (Value.cells (.agg #[.int .i64 0, .int .i64 0, .string ⟨#[]⟩])) (m * 3))[i]? = some ((#[Value.int .i64 0, .int .i64 0, .string ⟨#[]⟩] : Array Value)[i % 3]!) := by
    intro i hi
    rw [size_madeCells] at hi
    simp [madeCells, hi, Value.cells]
  have h := World.rowIs_alloc w _ 38 _ hc
  rw [size_madeCells] at h
  refine Vv.own_of_row h (by simp) ?_ hb (by unfold maxLen; omega)
  intro i x hi hx
  have : x = Val.null := by
    have h2 := List.mem_of_getElem? hx
    exact (List.mem_replicate.1 h2).2
  subst this
  refine ⟨?_, ?_, ?_⟩
  · show (#[Value.int .i64 0, .int .i64 0, .string ⟨#[]⟩] : Array Value)[(i * 3) % 3]! = _
    rw [show (i * 3) % 3 = 0 by omega]; rfl
  · show (#[Value.int .i64 0, .int .i64 0, .string ⟨#[]⟩] : Array Value)[(i * 3 + 1) % 3]! = _
    rw [show (i * 3 + 1) % 3 = 1 by omega]; rfl
  · show (#[Value.int .i64 0, .int .i64 0, .string ⟨#[]⟩] : Array Value)[(i * 3 + 2) % 3]! = _
    rw [show (i * 3 + 2) % 3 = 2 by omega]; rfl
theorem op_make_vals {o : Oper} {a : Act} {w : World} {K : Act → World → Prop} {Q : Exit → Act → World → Prop} (l : Operand) (ho : o.op = .makeSlice 22 l l) (m : Nat) (hl : a.eval l = .int .i64 (m : Int)) (hm : m ≤ 4398046511104)
    (h : K (a.put o.dst (.slice (some ⟨w.heap.size, 0, none⟩) m m)) (w.alloc (.cells (madeCells (Value.cells (.agg #[.int .i64 0, .int .i64 0, .string ⟨#[]⟩])) (m * 3)) 38))) : o.wp Tryz.prog a w K Q := by
  obtain ⟨i38, hi38, z380, z381, z382⟩ := info_parts info23
  have hb' : (i38.bytes : Int) * (m : Int) ≤ 281474976710656 := by rw [z382]; omega
  have hrun := run_make (P := Tryz.prog) w 22 38 i38 _ Tryz.underlying22 hi38 z380 .i64 .i64 m m (by omega) (Int.le_refl _) hb' (by omega)
  simp only [Int.toNat_natCast, z381] at hrun
  unfold Oper.wp execOp
  simp only [ho, Sem.run_bind, Sem.run_pure, Result.andThen_ok, hl, hrun]
  exact h
/-- While the rows are worked out. -/
structure OI (wL wz : World) (Br Bv lo m n : Nat) (U : List Int) (val : Nat → Val) (i : Nat) (wr : World) : Prop where
  bel : Below wL.heap.size wL wr
  kept : Kept lo [Br, Bv] wz wr
  row : ∃ r, OwnV wr wL.heap.size (.slice (some ⟨Br, 0, none⟩) m m) r ∧ r.length = m ∧ (∀ x ∈ r, VOk x)
  vals : ∃ vs, OwnV wr wL.heap.size (.slice (some ⟨Bv, 0, none⟩) n n) vs ∧ vs.length = n ∧ ∀ j, j < i → vs[j]? = some (val j)
/-- .. and a row is laid. -/
structure II (wL wz : World) (Br Bv lo m n : Nat) (U : List Int) (val : Nat → Val) (av : Int → Val) (i k : Nat) (wr : World) : Prop where
  bel : Below wL.heap.size wL wr
  kept : Kept lo [Br, Bv] wz wr
  row : ∃ r, OwnV wr wL.heap.size (.slice (some ⟨Br, 0, none⟩) m m) r ∧ r.length = m ∧ (∀ x ∈ r, VOk x) ∧ ∀ (j : Nat) (x : Int), j < k → U[j]? = some x → r[x.toNat]? = some (av x)
  vals : ∃ vs, OwnV wr wL.heap.size (.slice (some ⟨Bv, 0, none⟩) n n) vs ∧ vs.length = n ∧ ∀ j, j < i → vs[j]? = some (val j)
/-- The three cells of a value, stored. -/
abbrev S3 (w : World) (g o : Nat) (y : Val) : World := ((w.setCell ⟨g, o, none⟩ (.int .i64 y.k)).setCell ⟨g, o + 1, none⟩ (.int .i64 y.n)).setCell ⟨g, o + 2, none⟩ (.string y.s)
theorem s3_below {lo : Nat} {w0 w : World} {g o : Nat} (y : Val) (h : Below lo w0 w) (hg : lo ≤ g) : Below lo w0 (S3 w g o y) := ((h.setCell (by simpa using hg) _).setCell (by simpa using hg) _).setCell (by simpa using hg) _
theorem s3_other {w : World} {base B o : Nat} {v : Value} {L : List Val} (y : Val) (h : OwnV w base v L) (hB : ∀ g, v.ownBlock = some g → g ≠ B) : OwnV (S3 w B o y) base v L := ownV_other (ownV_other (ownV_other h hB) hB) hB
theorem s3_kept {lo : Nat} {Bs : List Nat} {w : World} {B o : Nat} (y : Val) (hB : B ∈ Bs) : Kept lo Bs w (S3 w B o y) := ((Kept.of_store w lo _ _ hB).trans (Kept.of_store _ lo _ _ hB)).trans (Kept.of_store _ lo _ _ hB)
theorem vok_set {r : List Val} {j : Nat} {y : Val} (h : ∀ x ∈ r, VOk x) (hy : VOk y) : ∀ x ∈ r.set j y, VOk x := fun x hx => by
  rcases List.mem_or_eq_of_mem_set hx with h1 | rfl
  · exact h x h1
  · exact hy
theorem II.step {wL wz : World} {Br Bv lo m n : Nat} {U : List Int} {val : Nat → Val} {av : Int → Val} {i k : Nat} {wr : World} {xn : Nat} (h : II wL wz Br Bv lo m n U val av i k wr) (hx : U[k]? = some (xn : Int)) (hxm : xn < m) (hok : VOk (av xn)) (hne : Br ≠ Bv) (hBr : wL.heap.size ≤ Br) (hU : ∀ x ∈ U, 0 ≤ x) :
    II wL wz Br Bv lo m n U val av i (k + 1) (S3 wr Br (xn * 3) (av xn)) := by
  obtain ⟨h1, h2, ⟨r, g1, g2, g3, g4⟩, ⟨vs, q1, q2, q3⟩⟩ := h
  refine ⟨s3_below _ h1 hBr, h2.trans (s3_kept _ (by simp)), ⟨r.set xn (av xn), g1.put (by omega) _, by rw [List.length_set]; exact g2, vok_set g3 hok, fun j x hj hjx => ?_⟩, ⟨vs, s3_other _ q1 (fun g hg => by simp [Value.ownBlock] at hg; omega), q2, q3⟩⟩
  by_cases e : x = (xn : Int)
  · subst e
    rw [Int.toNat_natCast, List.getElem?_set_self (by omega)]
  · have hjk : j ≠ k := fun ejk => by rw [ejk, hx] at hjx; injection hjx with hjx; exact e hjx.symm
    by_cases e2 : x.toNat = xn
    · exact absurd (by have := hU x (List.mem_of_getElem? hjx); omega) e
    · rw [List.getElem?_set_ne (by omega)]
      exact g4 j x (by omega) hjx
end Go.Proofs.YtmjeiepljlepbacGreat
set_option linter.unusedSimpArgs false
set_option linter.unusedVariables false
set_option maxRecDepth 100000
namespace Go.Proofs.YtmjeiepljlepbacGreat
open Go.RowKit Go.Sort Go.Deep

set_option maxHeartbeats 4000000 in
theorem vover_any (e : Ex) (hb : builtE e = true) (hf : e.fin) (Cs : List (Vv.Vc × Vv.Sl)) (n : Nat) (hn : n ≤ 4096) (hm : Cs.length ≤ 4398046511104) (hsm : ∀ c ∈ Cs, Vv.small c.1) (hgd : ∀ c ∈ Cs, Vv.goodB c.1 = true ∧ c.1.nl.length = n) (hok : ∀ c ∈ Cs, ∀ i, VOk (Vv.atV c.1 i)) (hu : usesB e Cs.length = true)
    (aC : Option Addr) (cC : Nat) (a : Option Addr) (c : Nat) (w : World) (ha : Ex.all w a e.args) (hC : Vv.ColsAt w aC Cs) :
    Calls Tryz.prog 85 #[e.val a c, .slice aC Cs.length cC, .int .i64 (n : Int)] w fun r w' => ∃ v, r = .returned v ∧ OwnV w' w.heap.size v ((List.range n).map fun i => evalE (Vv.rowOf Cs i) e) ∧ Below w.heap.size w w' := by
  have hg := built_good hb
  have HCO := hide (fun (W : World) (hW : Below w.heap.size w W) => cols_any e hf a c W (Ex.all_later _ ha hW))
  rw [hb] at HCO
  simp only [if_true] at HCO
  have HRD := hide (fun (W : World) (hW : Below w.heap.size w W) => ready_all e.size e (Nat.le_refl _) hf hg a c W (Ex.all_later _ ha hW))
  have HCA := hide (fun (W : World) (hW : Below w.heap.size w W) => hC.later hW)
  have hUl : (uniqI (colsE e)).length ≤ 400 := by have h1 := (uniq_sd (colsE e)).2.2; have h2 := cols_size e; have h3 := (built_bounds hb).1; omega
  have HUI : Hid (∀ x ∈ uniqI (colsE e), ∃ j : Nat, x = (j : Int) ∧ j < Cs.length) := used_in hg hu
  have HUC : Hid (∀ x ∈ colsE e, x ∈ uniqI (colsE e)) := fun x hx => ((uniq_sd (colsE e)).2.1 x).2 hx
  generalize uniqI (colsE e) = U at *
  obtain ⟨pk, hpk⟩ : ∃ pk : Int → List Val, ∀ (j : Nat) cj, Cs[j]? = some cj → pk (j : Int) = Vv.valsV cj.1 := ⟨fun x => match Cs[x.toNat]? with | some c => Vv.valsV c.1 | none => [], fun j cj h => by simp [h]⟩
  have HPK := hide hpk
  have HSM := hide hsm
  have HGD := hide hgd
  have HOK := hide hok
  have HG := hide hg
  obtain ⟨i22, hi22, z220, z221, z222⟩ := info_parts Vv.Tryz.info22
  obtain ⟨i38, hi38, z380, z381, z382⟩ := info_parts info23
  have HB0 := hide (below_alloc (Below.refl _ w) (.cells #[.int .i64 e.op, .int .i64 e.n, .int .i64 e.v.k, .int .i64 e.v.n, .string e.v.s, .slice a e.args.length c] 59))
  have H6 := hide (Six.new w e a c)
  rw [Ex.val_open] at HCO HRD ⊢
  clear ha hC hpk hsm hgd hok hg hb hf hu
  go_enter Tryz.func85, Tryz.ntmps85
  go_upto_region 2 with (go_at_call 33; refine (unhide HCO _ (unhide HB0)).mono ?_; rintro r w1 ⟨v1, rfl, hO1, hb1⟩)
  obtain ⟨aU, cU, rfl⟩ := hO1.slice
  refine enter_with (fun wx => Six wx w.heap.size e a c ∧ IntsAt wx aU U ∧ Below w.heap.size w wx) ⟨(unhide H6).later hb1, hO1.ints, below_step (unhide HB0) hb1⟩ ?_
  intro wx HX
  clear hO1 hb1 H6 HB0 HCO
  go_upto_region 3 with (at_make; refine Vv.wpList_make_rows _ rfl (.tmp 20) (.tmp 20) 46 rfl 22 i22 _ Tryz.underlying46 hi22 z220 1 z221 .i64 .i64 U.length rfl rfl (by rw [z222]; omega) (by omega) ?_)
  refine enter_with (fun wy => LI wx U pk 0 wy) ?_ ?_
  · have h := LI.start wx U pk
    simpa [Value.cells] using h
  intro wy HL0
  go_wp2
  go_loopw [24] (fun i wr => ∃ k : Nat, k ≤ U.length ∧ i = .int .i64 (k : Int) ∧ Hid (LI wx U pk k wr)) (fun i _ => U.length - (intOf i).toNat)
  case atStart => exact ⟨0, Nat.zero_le _, rfl, unhide HL0⟩
  case round =>
    obtain ⟨k, hk, rfl, HL⟩ := hrel
    by_cases hlt : k < U.length
    · have h9 : (k : Int) < (U.length : Int) := by omega
      obtain ⟨x, hx⟩ : ∃ x, U[k]? = some x := ⟨_, List.getElem?_eq_getElem hlt⟩
      obtain ⟨j, rfl, hj⟩ := unhide HUI x (List.mem_of_getElem? hx)
      obtain ⟨cj, hcj⟩ : ∃ cj, Cs[j]? = some cj := ⟨_, List.getElem?_eq_getElem hj⟩
      have hBw := below_step (unhide HX).2.2 (unhide HL).1
      obtain ⟨bU, oU, rfl, d0⟩ := ((unhide HX).2.1.later (unhide HL).1).get hx
      have hca := unhide HCA wr hBw
      have hva := hca.2 cj (List.mem_of_getElem? hcj)
      have hsmj := unhide HSM cj (List.mem_of_getElem? hcj)
      rcases hca.1 with e0 | ⟨bC, oC, rfl, hco⟩
      · rw [e0] at hj; exact absurd hj (by simp)
      obtain ⟨c0, c1, c2, c3⟩ := hco j cj hcj
      have HV := hide (Vv.values_any cj.1 cj.2 wr (by have := (unhide HGD cj (List.mem_of_getElem? hcj)).2; omega) hsmj hva)
      rw [Vv.vecV_open] at HV
      obtain ⟨F, hF, _⟩ := (unhide HL).2.2
      have HF := hide hF
      have HST := hide (fun (w2 : World) (v : Value) (hb : Below wr.heap.size wr w2) (hv : OwnV w2 wr.heap.size v (pk (j : Int))) => (unhide HL).step hx hb hv)
      have HPJ := hide (unhide HPK j cj hcj)
      have h8 : (j : Int) < (Cs.length : Int) := by omega
      clear hx hcj hca hva hsmj hco hF hBw
      go_wp2_with (go_at_call 13; refine (unhide HV).mono ?_; rintro r w2 ⟨v2, rfl, hO2, hb2⟩; obtain ⟨a2, cc2, rfl, _⟩ := Vv.ownV_row hO2; have g0 := (Vv.rowIs_later (unhide HF) hb2).cell hlt; have f0 := (Vv.rowIs_later (unhide HF) hb2).frozen k)
      exact ⟨⟨k + 1, by omega, by go_num, unhide HST w2 _ hb2 (by rw [unhide HPJ]; exact hO2)⟩, by simp [intOf]; omega⟩
    · have h9 : ¬ (k : Int) < (U.length : Int) := by omega
      obtain rfl : k = U.length := by omega
      refine enter_with (fun wL => (∃ F, wL.rowIs wx.heap.size 22 U.length F ∧ ∀ (j : Nat) (x : Int), j < U.length → U[j]? = some x → OwnV wL (wx.heap.size + 1) (F j) (pk x)) ∧ Below w.heap.size w wL ∧ IntsAt wL aU U ∧ Six wL w.heap.size e a c) ⟨(unhide HL).2.2, below_step (unhide HX).2.2 (unhide HL).1, (unhide HX).2.1.later (unhide HL).1, (unhide HX).1.later (unhide HL).1⟩ ?_
      intro wL HLL
      have HFL := hide (unhide HLL).1
      have HBL := hide (unhide HLL).2.1
      have HIN := hide (unhide HLL).2.2.1
      have HSL := hide (unhide HLL).2.2.2
      have HRL := hide (fun (W : World) (hW : Below wL.heap.size wL W) => unhide HRD W (below_step (unhide HBL) hW))
      clear HL HX HRD HCA HL0 hk h9 HLL
      go_upto_region 8 with fail
      go_cut [11, 12] (fun f s wz => ∃ (Fv : Value) (Br lo : Nat), Fv = f ∧ s = .slice (some ⟨Br, 0, none⟩) Cs.length Cs.length ∧ Hid (Below wL.heap.size wL wz ∧ WorkK lo [Br] wz Fv e ∧ OwnV wz wL.heap.size (.slice (some ⟨Br, 0, none⟩) Cs.length Cs.length) (List.replicate Cs.length Val.null) ∧ wL.heap.size ≤ Br ∧ Br < wz.heap.size))
      case first =>
        refine wp_region_noPanic ?_
        refine wp_region_G (S := fun w' : World => Below wL.heap.size wL w') (k := 6) (by kernel_rfl) ?_
        refine anyG_takel (i := 0) (v := (.agg #[.int .i64 e.op, .int .i64 e.n, .int .i64 e.v.k, .int .i64 e.v.n, .string e.v.s, .slice a e.args.length c])) [6] rfl (by kernel_rfl) (by kernel_rfl) (by kernel_rfl) (by kernel_rfl) (fun _ _ _ h => h) (Or.inl ⟨by rfl, fun w' hSw => ?_⟩) ((Below.refl _ wL).drew) ?_
        · obtain ⟨e0, e1, e2, e3, e4, e5⟩ := (unhide HSL).later hSw
          go_simp
        try simp only [Act.put, List.setIfInBounds_toArray, List.set_cons_zero, List.set_cons_succ]
        refine anyG_takel (i := 2) (v := (.slice aC Cs.length cC)) [6] rfl (by kernel_rfl) (by kernel_rfl) (by kernel_rfl) (by kernel_rfl) (fun _ _ _ h => h) (Or.inl ⟨by rfl, fun w' hSw => ?_⟩) ((Below.refl _ wL).drew) ?_
        · go_simp
        try simp only [Act.put, List.setIfInBounds_toArray, List.set_cons_zero, List.set_cons_succ]
        refine anyG_takel (i := 3) (v := (.int .i64 (Cs.length : Int))) [6] rfl (by kernel_rfl) (by kernel_rfl) (by kernel_rfl) (by kernel_rfl) (fun _ _ _ h => h) (Or.inl ⟨by rfl, fun w' hSw => ?_⟩) ((Below.refl _ wL).drew) ?_
        · go_simp
        try simp only [Act.put, List.setIfInBounds_toArray, List.set_cons_zero, List.set_cons_succ]
        refine anyG_many [1, 4] (by kernel_rfl) (by simp) ?_
        intro i hi
        simp only [List.mem_cons, List.not_mem_nil, or_false] at hi
        rcases hi with rfl | rfl
        · refine wpOp_lit rfl (by rfl) fun K' hK' => ?_
          go_simp
          refine (unhide HRL wL.drew ((Below.refl _ wL).drew)).mono ?_
          rintro r w2 ⟨Fv, rfl, hW2, hb2⟩
          go_simp
          have hS2 : Below wL.heap.size wL w2 := below_step ((Below.refl _ wL).drew) hb2
          refine unhide hK' _ _ ⟨fun _ => hS2, ?_⟩
          clear hK' K'
          refine anyG_takel (i := 5) (v := (Fv)) [6] rfl (by kernel_rfl) (by kernel_rfl) (by kernel_rfl) (by kernel_rfl) (fun _ _ _ h => h) (Or.inl ⟨by rfl, fun w' hSw => ?_⟩) hS2 ?_
          · go_simp
          try simp only [Act.put, List.setIfInBounds_toArray, List.set_cons_zero, List.set_cons_succ]
          refine anyG_one (i := 4) (by kernel_rfl) ?_
          refine wpOp_lit rfl (by rfl) fun K' hK' => ?_
          refine op_make_vals (.tmp 41) rfl Cs.length rfl hm ?_
          refine unhide hK' _ _ ⟨fun _ => below_alloc hS2 _, ?_⟩
          clear hK' K'
          try simp only [Act.put, List.setIfInBounds_toArray, List.set_cons_zero, List.set_cons_succ]
          refine anyG_one (i := 6) (by kernel_rfl) ?_
          refine wpOp_lit rfl (by rfl) fun K' hK' => ?_
          go_simp
          refine unhide hK' _ _ ⟨fun hh => absurd hh (by decide), ?_⟩
          clear hK' K'
          refine anyG_done (by kernel_rfl) ?_ _
          refine NoPanic.normal ?_
          go_wp2
          go_meet
          have hal := below_alloc (Below.refl _ w2) (.cells (madeCells (Value.cells (.agg #[.int .i64 0, .int .i64 0, .string ⟨#[]⟩])) (Cs.length * 3)) 38)
          refine ⟨Fv, w2.heap.size, wL.heap.size, rfl, rfl, below_alloc hS2 _, ?_, own_made w2 wL.heap.size Cs.length hS2.size hm, hS2.size, by simp [go_sem]⟩
          obtain ⟨nF, kF, rfl, ent, hc⟩ := hW2
          exact ⟨nF, kF, rfl, ent, fun W' a' c' row hk => hc W' a' c' row (((Kept.of_below _ [w2.heap.size] hal).trans hk).more (Nat.le_refl _) (fun b hb => by simp at hb; subst hb; exact .inr (.inr (Nat.le_refl _))))⟩
        · refine wpOp_lit rfl (by rfl) fun K' hK' => ?_
          refine op_make_vals (.tmp 41) rfl Cs.length rfl hm ?_
          have hS1 : Below wL.heap.size wL (wL.drew.alloc (.cells (madeCells (Value.cells (.agg #[.int .i64 0, .int .i64 0, .string ⟨#[]⟩])) (Cs.length * 3)) 38)) := below_alloc ((Below.refl _ wL).drew) _
          refine unhide hK' _ _ ⟨fun _ => hS1, ?_⟩
          clear hK' K'
          try simp only [Act.put, List.setIfInBounds_toArray, List.set_cons_zero, List.set_cons_succ]
          refine anyG_one (i := 1) (by kernel_rfl) ?_
          refine wpOp_lit rfl (by rfl) fun K' hK' => ?_
          go_simp
          refine (unhide HRL (wL.drew.alloc (.cells (madeCells (Value.cells (.agg #[.int .i64 0, .int .i64 0, .string ⟨#[]⟩])) (Cs.length * 3)) 38)) hS1).mono ?_
          rintro r w2 ⟨Fv, rfl, hW2, hb2⟩
          go_simp
          have hS2 : Below wL.heap.size wL w2 := below_step hS1 hb2
          refine unhide hK' _ _ ⟨fun _ => hS2, ?_⟩
          clear hK' K'
          refine anyG_takel (i := 5) (v := (Fv)) [6] rfl (by kernel_rfl) (by kernel_rfl) (by kernel_rfl) (by kernel_rfl) (fun _ _ _ h => h) (Or.inl ⟨by rfl, fun w' hSw => ?_⟩) hS2 ?_
          · go_simp
          try simp only [Act.put, List.setIfInBounds_toArray, List.set_cons_zero, List.set_cons_succ]
          refine anyG_one (i := 6) (by kernel_rfl) ?_
          refine wpOp_lit rfl (by rfl) fun K' hK' => ?_
          go_simp
          refine unhide hK' _ _ ⟨fun hh => absurd hh (by decide), ?_⟩
          clear hK' K'
          refine anyG_done (by kernel_rfl) ?_ _
          refine NoPanic.normal ?_
          go_wp2
          go_meet
          have hsz : (wL.drew.alloc (.cells (madeCells (Value.cells (.agg #[.int .i64 0, .int .i64 0, .string ⟨#[]⟩])) (Cs.length * 3)) 38)).heap.size = wL.heap.size + 1 := by simp [go_sem]
          have hs2 := hb2.size
          rw [hsz] at hs2
          refine ⟨Fv, wL.heap.size, (wL.drew.alloc (.cells (madeCells (Value.cells (.agg #[.int .i64 0, .int .i64 0, .string ⟨#[]⟩])) (Cs.length * 3)) 38)).heap.size, rfl, rfl, hS2, ?_, (own_made wL.drew wL.heap.size Cs.length (Nat.le_refl _) hm).later hb2, Nat.le_refl _, by omega⟩
          obtain ⟨nF, kF, rfl, ent, hc⟩ := hW2
          exact ⟨nF, kF, rfl, ent, fun W' a' c' row hk => hc W' a' c' row (hk.more (Nat.le_refl _) (fun b hb => by simp at hb; subst hb; exact .inr (.inl (by rw [hsz]; omega))))⟩
      case rest =>
        obtain ⟨Fv, Br, lo, rfl, rfl, HZ⟩ := hcut
        go_upto_region 10 with (at_make; refine Vv.wpList_make_rows _ rfl (.tmp 43) (.tmp 43) 22 rfl 38 i38 _ Tryz.underlying22 hi38 z380 3 z381 .i64 .i64 n rfl rfl (by rw [z382]; omega) (by omega) ?_)
        have hm' := hm
        obtain ⟨val, hval⟩ : ∃ val : Nat → Val, val = fun i => evalE (Vv.rowOf Cs i) e := ⟨_, rfl⟩
        obtain ⟨Bv, hBv⟩ : ∃ Bv, Bv = wc.heap.size := ⟨_, rfl⟩
        have hne : Br ≠ Bv := by have := (unhide HZ).2.2.2.2; omega
        have hBr := (unhide HZ).2.2.2.1
        have hBvl : wL.heap.size ≤ Bv := by rw [hBv]; exact (unhide HZ).1.size
        refine enter_with (fun wz => WorkK lo [Br, Bv] wz Fv e ∧ OI wL wz Br Bv lo Cs.length n U val 0 wz) ?_ ?_
        · obtain ⟨z1, z2, z3, z4, z5⟩ := unhide HZ
          have hal := below_alloc (Below.refl _ wc) (.cells (madeCells (Value.cells (.agg #[.int .i64 0, .int .i64 0, .string ⟨#[]⟩])) (n * 3)) 38)
          refine ⟨?_, below_alloc z1 _, Kept.refl _ _ _, ⟨_, z3.later hal, by simp, fun x hx => ?_⟩, ⟨_, by rw [hBv]; exact own_made wc wL.heap.size n z1.size (by omega), by simp, fun j hj => absurd hj (by omega)⟩⟩
          · obtain ⟨nF, kF, rfl, ent, hc⟩ := z2
            exact ⟨nF, kF, rfl, ent, fun W' a' c' row hk => hc W' a' c' row (((Kept.of_below _ _ hal).trans hk).more (Nat.le_refl _) (fun b hb => by
              simp at hb
              rcases hb with rfl | rfl
              · exact .inl (by simp)
              · exact .inr (.inr (by rw [hBv]; exact Nat.le_refl _))))⟩
          · rw [(List.mem_replicate.1 hx).2]
            exact ⟨⟨by show (-9223372036854775808 : Int) ≤ 0; decide, by show (0 : Int) ≤ 9223372036854775807; decide⟩, Nat.zero_le _⟩
        intro wz HO
        rw [← hBv]
        clear HZ hBv
        obtain ⟨nF, kF, rfl, ent, hcF⟩ := (unhide HO).1
        have HCF := hide hcF
        have HOI := hide (unhide HO).2
        clear hcF HO
        go_wp2
        go_loopw [47] (fun i wr => ∃ k : Nat, k ≤ n ∧ i = .int .i64 (k : Int) ∧ Hid (OI wL wz Br Bv lo Cs.length n U val k wr)) (fun i _ => n - (intOf i).toNat)
        case atStart => exact ⟨0, Nat.zero_le _, rfl, unhide HOI⟩
        case round =>
          obtain ⟨i, hi, rfl, HI⟩ := hrel
          by_cases hlt : i < n
          · have h9 : (i : Int) < (n : Int) := by omega
            obtain ⟨av, hav⟩ : ∃ av : Int → Val, ∀ (j : Nat) cj, Cs[j]? = some cj → av (j : Int) = Vv.atV cj.1 i := ⟨fun x => match Cs[x.toNat]? with | some c => Vv.atV c.1 i | none => Val.null, fun j cj h => by simp [h]⟩
            have HAV := hide hav
            have HI0 : Hid (II wL wz Br Bv lo Cs.length n U val av i 0 wr) := by
              obtain ⟨q1, q2, ⟨r, q3, q4, q5⟩, q6⟩ := unhide HI
              exact ⟨q1, q2, ⟨r, q3, q4, q5, fun j x hj => absurd hj (by omega)⟩, q6⟩
            clear hav HI
            go_wp2
            go_loopw [52] (fun ii wr => ∃ k : Nat, k ≤ U.length ∧ ii = .int .i64 (k : Int) ∧ Hid (II wL wz Br Bv lo Cs.length n U val av i k wr)) (fun ii _ => U.length - (intOf ii).toNat)
            case atStart => exact ⟨0, Nat.zero_le _, rfl, unhide HI0⟩
            case round =>
              obtain ⟨k, hk, rfl, HK⟩ := hrel
              by_cases hlt2 : k < U.length
              · have h92 : (k : Int) < (U.length : Int) := by omega
                obtain ⟨x, hx⟩ : ∃ x, U[k]? = some x := ⟨_, List.getElem?_eq_getElem hlt2⟩
                obtain ⟨j, rfl, hj⟩ := unhide HUI x (List.mem_of_getElem? hx)
                obtain ⟨cj, hcj⟩ : ∃ cj, Cs[j]? = some cj := ⟨_, List.getElem?_eq_getElem hj⟩
                have hBp := (unhide HK).bel
                obtain ⟨bU, oU, rfl, d0⟩ := ((unhide HIN).later hBp).get hx
                obtain ⟨F, hF, hFO⟩ := unhide HFL
                have hcell := (Vv.rowIs_later hF hBp).cell hlt2
                have hown := (hFO k _ hlt2 hx).later hBp
                rw [unhide HPK j cj hcj] at hown
                obtain ⟨a5, c5, hv5, hrow5⟩ := Vv.ownV_row hown
                obtain ⟨hgj, hnj⟩ := unhide HGD cj (List.mem_of_getElem? hcj)
                have hat := Vv.vals_at hgj (show i < cj.1.nl.length by omega)
                have hvl := Vv.vals_len hgj
                rw [hv5, hvl, hnj] at hcell
                have havj := unhide HAV j cj hcj
                rcases hrow5 with hnil | ⟨b5, o5, rfl, hrow5⟩
                · rw [hnil] at hat; cases hat
                obtain ⟨y0, y1, y2⟩ := hrow5 i _ hat
                rw [← havj] at y0 y1 y2
                have hoky : VOk (av (j : Int)) := by rw [havj]; exact unhide HOK cj (List.mem_of_getElem? hcj) i
                obtain ⟨r, hr1, hr2, _, _⟩ := (unhide HK).row
                obtain ⟨yr, hyr⟩ : ∃ yr, r[j]? = some yr := ⟨_, List.getElem?_eq_getElem (by omega)⟩
                obtain ⟨p0, p1, p2, q0, q1, q2⟩ := hr1.facts hyr
                have HST := hide ((unhide HK).step hx hj hoky hne hBr (fun x hx => by obtain ⟨j', rfl, _⟩ := unhide HUI x hx; omega))
                have h8 : (j : Int) < (Cs.length : Int) := by omega
                generalize av (j : Int) = yv at *
                clear hx hcj hBp hF hFO hown hv5 hgj hnj hat hvl havj hrow5 hr1 hr2 hyr hoky
                go_wp2
                exact ⟨⟨k + 1, by omega, by go_num, unhide HST⟩, by simp [intOf]; omega⟩
              · have h92 : ¬ (k : Int) < (U.length : Int) := by omega
                obtain rfl : k = U.length := by omega
                obtain ⟨r, hr1, hr2, hr3, hr4⟩ := (unhide HK).row
                obtain ⟨vs, q1, q2, q3⟩ := (unhide HK).vals
                have hrow : RowAt wr (some ⟨Br, 0, none⟩) r := by
                  obtain ⟨a9, cap9, e9, h9⟩ := ownV_row hr1
                  injection e9 with e9
                  rw [e9]; exact h9
                have HC := hide (unhide HCF wr (some ⟨Br, 0, none⟩) Cs.length r (unhide HK).kept hrow hr3 (by omega))
                have HVV : Hid (evalE r e = val i) := by
                  show _ = _
                  rw [hval]
                  refine eval_agree r (Vv.rowOf Cs i) (by rw [hr2, Vv.rowOf_len]) e (unhide HG) fun x hx => ?_
                  have hxU := unhide HUC x hx
                  obtain ⟨j, hj⟩ := List.mem_iff_getElem?.1 hxU
                  have h1 := hr4 j x (List.getElem?_eq_some_iff.1 hj).1 hj
                  obtain ⟨jc, rfl, hjc⟩ := unhide HUI x hxU
                  obtain ⟨cj, hcj⟩ : ∃ cj, Cs[jc]? = some cj := ⟨_, List.getElem?_eq_getElem hjc⟩
                  rw [h1, unhide HAV jc cj hcj, Int.toNat_natCast, Vv.rowOf_at hcj]
                rw [hr2] at HC
                obtain ⟨V, hV⟩ : ∃ V, V = evalE r e := ⟨_, rfl⟩
                rw [← hV] at HC HVV
                have HQ := hide q1
                have HRW := hide hr1
                obtain ⟨y0, hy0⟩ : ∃ y0, vs[i]? = some y0 := ⟨_, List.getElem?_eq_getElem (by omega)⟩
                have HEND : Hid (∀ w2, Below wr.heap.size wr w2 → OI wL wz Br Bv lo Cs.length n U val (i + 1) (S3 w2 Bv (i * 3) V)) := fun w2 hb2 => by
                  refine ⟨s3_below _ (below_step (unhide HK).bel hb2) hBvl, ((unhide HK).kept.trans (Kept.of_below _ _ hb2)).trans (s3_kept _ (by simp)), ⟨r, s3_other _ (hr1.later hb2) (fun g hg => by simp [Value.ownBlock] at hg; omega), hr2, hr3⟩, ⟨vs.set i V, (q1.later hb2).put (by omega) V, by rw [List.length_set]; exact q2, fun j hj => ?_⟩⟩
                  by_cases ej : j = i
                  · subst ej
                    rw [List.getElem?_set_self (by omega), unhide HVV]
                  · rw [List.getElem?_set_ne (by omega)]
                    exact q3 j (by omega)
                have ent' : ∀ args w, (callFunc nF args).run Tryz.prog w = .ok (.enter nF args) w := ent
                have HFA := hide (fun (w2 : World) (hb2 : Below wr.heap.size wr w2) => (q1.later hb2).facts hy0)
                rw [Val.open_] at HC
                clear hr1 hr2 hr3 hr4 q1 q2 q3 hrow hV hy0 HVV HQ HRW
                go_wp2_with (refine (unhide HC).mono ?_; rintro r' w2 ⟨rfl, hb2⟩; obtain ⟨p0, p1, p2, f0, f1, f2⟩ := unhide HFA w2 hb2)
                exact ⟨⟨i + 1, by omega, by go_num, unhide HEND w2 hb2⟩, by simp [intOf]; omega⟩
          · have h9 : ¬ (i : Int) < (n : Int) := by omega
            obtain rfl : i = n := by omega
            obtain ⟨vs, q1, q2, q3⟩ := (unhide HI).vals
            have hbl := (unhide HI).bel
            have HE : Hid (vs = (List.range i).map fun i => evalE (Vv.rowOf Cs i) e) := by
              show _ = _
              refine List.ext_getElem? fun j => ?_
              by_cases hj : j < i
              · rw [q3 j hj, hval]; simp [hj]
              · rw [List.getElem?_eq_none (by omega), List.getElem?_eq_none (by simp; omega)]
            have HO := hide q1
            clear q1 q2 q3 HOI HCF
            go_wp2
            go_ret
            refine ⟨_, rfl, ?_, below_step (unhide HBL) hbl⟩
            rw [← unhide HE]
            obtain ⟨g1, g2⟩ := unhide HO
            refine ⟨g1, ?_⟩
            rcases g2 with g2 | ⟨g, cap, cur, u1, u2, u3⟩
            · exact .inl g2
            · exact .inr ⟨g, cap, cur, u1, Nat.le_trans (unhide HBL).size u2, u3⟩
end Go.Proofs.YtmjeiepljlepbacGreat

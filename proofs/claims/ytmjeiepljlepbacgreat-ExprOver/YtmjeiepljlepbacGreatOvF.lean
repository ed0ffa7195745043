import Derived.Test.YtmjeiepljlepbacGreatOvA
import Derived.Test.YtmjeiepljlepbacGreatOvB
set_option linter.unusedSimpArgs false
set_option linter.unusedVariables false
set_option maxRecDepth 100000
namespace Go.Proofs.YtmjeiepljlepbacGreat
open Go.RowKit Go.Sort Go.Deep

theorem good_small {X : Vv.Vc} (h : Vv.goodB X = true) (i : Nat) : Small (Vv.atV X i) := by
  unfold Vv.atV
  split
  · exact sm_null
  · split
    · exact sm_num _
    · rename_i h1
      have e1 : (X.k == 1) = false := by simpa using h1
      unfold Vv.goodB at h
      rw [e1] at h
      simp only [Bool.false_eq_true, if_false] at h
      split at h
      · show (X.ss.getD i ⟨#[]⟩).size ≤ 1000
        rw [List.getD_eq_getElem?_getD]
        cases hq : X.ss[i]? with
        | none => exact Nat.zero_le _
        | some s =>
          have hm := List.mem_of_getElem? hq
          simp only [Bool.and_eq_true, Bool.not_eq_true', List.any_eq_false] at h
          have h2 := h.2 s hm
          unfold Vv.largeB at h2
          simp only [decide_eq_true_eq] at h2
          show s.size ≤ 1000
          omega
      · cases h
theorem good_ok {X : Vv.Vc} (hn : ∀ x ∈ X.ns, In64 x) (h : Vv.goodB X = true) (i : Nat) : VOk (Vv.atV X i) := by
  have hs := good_small h i
  refine ⟨?_, Nat.le_trans hs (by omega)⟩
  have z : In64 0 := ⟨by decide, by decide⟩
  unfold Vv.atV
  split
  · exact z
  · split
    · show In64 (X.ns.getD i 0)
      rw [List.getD_eq_getElem?_getD]
      cases hq : X.ns[i]? with
      | none => exact z
      | some x => exact hn x (List.mem_of_getElem? hq)
    · exact z
/-- While Over looks at the columns. -/
structure KI (w : World) (e : Ex) (a : Option Addr) (c : Nat) (Cs : List Col) (n : Int) (k : Nat) (wr : World) : Prop where
  bel : Below w.heap.size w wr
  six : Six wr w.heap.size e a c
  box : wr.rowIs (w.heap.size + 1) 29 4 (Vv.box4 (.int .i64 0) Vv.noS Vv.noS Vv.noS)
  ks : ∃ F, wr.rowIs (w.heap.size + 2) 3 Cs.length F ∧ ∀ (j : Nat) (x : Col), j < k → Cs[j]? = some x → F j = .int .i64 x.1.k
  ok : ∀ (j : Nat) (x : Col), j < k → Cs[j]? = some x → badN n x = false
theorem KI.later {w : World} {e : Ex} {a : Option Addr} {c : Nat} {Cs : List Col} {n : Int} {k : Nat} {wr w' : World} (h : KI w e a c Cs n k wr) (hb : Below wr.heap.size wr w') : KI w e a c Cs n k w' := by
  obtain ⟨h1, h2, h3, ⟨F, h4, h5⟩, h6⟩ := h
  exact ⟨below_step h1 hb, h2.later hb, Vv.rowIs_later h3 hb, ⟨F, Vv.rowIs_later h4 hb, h5⟩, h6⟩
theorem KI.step {w : World} {e : Ex} {a : Option Addr} {c : Nat} {Cs : List Col} {n : Int} {k : Nat} {wr : World} {x : Col} (h : KI w e a c Cs n k wr) (hx : Cs[k]? = some x) (hb : badN n x = false) : KI w e a c Cs n (k + 1) (wr.setCell ⟨w.heap.size + 2, k, none⟩ (.int .i64 x.1.k)) := by
  obtain ⟨h1, h2, h3, ⟨F, h4, h5⟩, h6⟩ := h
  refine ⟨h1.setCell (by show w.heap.size ≤ w.heap.size + 2; omega) _, six_put h2 _ _ _ (by omega), h3.setOther (by show w.heap.size + 1 ≠ w.heap.size + 2; omega) _, ⟨_, h4.set k _, fun j y hj hy => ?_⟩, fun j y hj hy => ?_⟩
  · by_cases ej : j = k
    · subst ej
      rw [hx] at hy
      injection hy with hy
      subst hy
      simp
    · simp only [ej, if_false]
      exact h5 j y (by omega) hy
  · by_cases ej : j = k
    · subst ej
      rw [hx] at hy
      injection hy with hy
      subst hy
      exact hb
    · exact h6 j y (by omega) hy
theorem KI.ints {w : World} {e : Ex} {a : Option Addr} {c : Nat} {Cs : List Col} {n : Int} {wr : World} (h : KI w e a c Cs n Cs.length wr) : IntsAt wr (some ⟨w.heap.size + 2, 0, none⟩) (ksOf Cs) := by
  obtain ⟨_, _, _, ⟨F, h4, h5⟩, _⟩ := h
  refine .inr ⟨_, _, rfl, fun i x hx => ?_⟩
  unfold ksOf at hx
  rw [List.getElem?_map] at hx
  cases hc : Cs[i]? with
  | none => rw [hc] at hx; cases hx
  | some y =>
    rw [hc] at hx
    simp only [Option.map_some, Option.some.injEq] at hx
    have hi : i < Cs.length := (List.getElem?_eq_some_iff.1 hc).1
    have := h4.cell hi
    rw [h5 i y hi hc, hx] at this
    rw [Nat.zero_add]
    exact this
/-- What Over's answer is in memory. -/
def OPost (X : Vv.Vc × Int) (w : World) (r : Ending) (w' : World) : Prop := ∃ p, r = .returned (.tuple #[Vv.vecV X.1 p, .int .i64 X.2]) ∧ Vv.VecAt w' X.1 p ∧ Below w.heap.size w w'
theorem opost_zero {X : Vv.Vc × Int} {n : Int} {w w' : World} (hX : X = (Vv.Vc.zero, n)) (hb : Below w.heap.size w w') : OPost X w (.returned (.tuple #[Vv.zeroVec, .int .i64 n])) w' := by
  subst hX
  exact ⟨⟨none, 0, none, 0, none, 0⟩, rfl, Vv.VecAt.zero _, hb⟩
end Go.Proofs.YtmjeiepljlepbacGreat
set_option linter.unusedSimpArgs false
set_option linter.unusedVariables false
set_option maxRecDepth 100000
namespace Go.Proofs.YtmjeiepljlepbacGreat
open Go.RowKit Go.Sort Go.Deep

theorem over_bad {Cs : List Col} {n : Int} {e : Ex} {k : Nat} {x : Col} (hx : Cs[k]? = some x) (hb : badN n x = true) : overV Cs n e = (Vv.Vc.zero, 1) := by
  unfold overV
  split
  · rfl
  · rw [if_pos (List.any_eq_true.2 ⟨x, List.mem_of_getElem? hx, hb⟩)]
theorem over_out {Cs : List Col} {n : Int} {e : Ex} (h : n < 0 ∨ 4096 < n) : overV Cs n e = (Vv.Vc.zero, 1) := by
  unfold overV
  rw [if_pos (by simp only [Bool.or_eq_true, decide_eq_true_eq]; exact h)]
theorem over_in {Cs : List Col} {n : Int} {e : Ex} (h0 : 0 ≤ n) (h1 : n ≤ 4096) (hb : ∀ (j : Nat) (x : Col), j < Cs.length → Cs[j]? = some x → badN n x = false) :
    overV Cs n e = if kErr (ksOf Cs) e != 0 then (.zero, kErr (ksOf Cs) e) else (Vv.laidV (kindO (ksOf Cs) e) (valsO Cs n.toNat e), 0) := by
  unfold overV
  rw [if_neg (by simp only [Bool.or_eq_true, decide_eq_true_eq]; omega), if_neg]
  rw [List.any_eq_true]
  rintro ⟨x, hx, hb'⟩
  obtain ⟨j, hj⟩ := List.mem_iff_getElem?.1 hx
  rw [hb j x (List.getElem?_eq_some_iff.1 hj).1 hj] at hb'
  cases hb'
theorem kerr_built {ks : List Int} {e : Ex} (h : kErr ks e = 0) : builtE e = true ∧ usesB e ks.length = true := by
  unfold kErr at h
  split at h
  · rename_i h1
    simp only [Bool.and_eq_true] at h1
    exact ⟨h1.1.1, h1.2⟩
  · cases h
set_option maxHeartbeats 4000000 in
/-- Over (43). -/
theorem over_any (Cs : List Col) (n : Int) (e : Ex) (hf : e.fin) (hm : Cs.length ≤ 2199023255552) (hsm : ∀ c ∈ Cs, Vv.small c.1) (hns : ∀ c ∈ Cs, ∀ x ∈ c.1.ns, In64 x)
    (aC : Option Addr) (cC : Nat) (a : Option Addr) (c : Nat) (w : World) (ha : Ex.all w a e.args) (hC : Vv.ColsAt w aC Cs) :
    Calls Tryz.prog 43 #[e.val a c, .slice aC Cs.length cC, .int .i64 n] w (OPost (overV Cs n e) w) := by
  obtain ⟨i3, hi3, z30, z31, z32⟩ := info_parts info3
  have HSM := hide hsm
  have HNS := hide hns
  have HCA := hide (fun (W : World) (hW : Below w.heap.size w W) => hC.later hW)
  have HAL := hide (fun (W : World) (hW : Below w.heap.size w W) => Ex.all_later _ ha hW)
  have HF := hide hf
  obtain ⟨wa, hwa⟩ : ∃ wa, wa = (w.alloc (.cells #[.int .i64 e.op, .int .i64 e.n, .int .i64 e.v.k, .int .i64 e.v.n, .string e.v.s, .slice a e.args.length c] 59)).alloc (.cells #[.int .i64 0, .slice none 0 0, .slice none 0 0, .slice none 0 0] 29) := ⟨_, rfl⟩
  have hsz : (w.alloc (.cells #[.int .i64 e.op, .int .i64 e.n, .int .i64 e.v.k, .int .i64 e.v.n, .string e.v.s, .slice a e.args.length c] 59)).heap.size = w.heap.size + 1 := by simp [go_sem]
  have hsa : wa.heap.size = w.heap.size + 2 := by rw [hwa]; simp [go_sem]
  have HBA : Hid (Below w.heap.size w wa) := by rw [hwa]; exact below_alloc (below_alloc (Below.refl _ w) _) _
  have HSX : Hid (Six wa w.heap.size e a c) := by rw [hwa]; exact (Six.new w e a c).later (below_alloc (Below.refl _ _) _)
  have HBX : Hid (wa.rowIs (w.heap.size + 1) 29 4 (Vv.box4 (.int .i64 0) Vv.noS Vv.noS Vv.noS)) := by
    have h := Vv.box4_alloc (w.alloc (.cells #[.int .i64 e.op, .int .i64 e.n, .int .i64 e.v.k, .int .i64 e.v.n, .string e.v.s, .slice a e.args.length c] 59)) (.int .i64 0) (.slice none 0 0) (.slice none 0 0) (.slice none 0 0)
    rw [hsz] at h
    rw [hwa]
    exact h
  rw [Ex.val_open]
  clear ha hC hsm hns hf hsz
  go_enter Tryz.func43, Tryz.ntmps43
  go_upto_region 1 with fail
  rw [← hwa]
  clear hwa
  by_cases h0 : n < 0
  · have HE := hide (over_out (Cs := Cs) (e := e) (.inl h0))
    obtain ⟨r0, r1, r2, r3, f0, f1, f2, f3⟩ := Vv.box_facts (unhide HBX)
    unfold Vv.noS at r1 r2 r3
    go_wp2
    refine bodyPost_ret (v := .tuple #[Vv.zeroVec, .int .i64 1]) (by simp [results, Tryz.results43, go_sem, Vv.zeroVec, *]) rfl (opost_zero (unhide HE) ?_)
    exact Vv.below_set4 (unhide HBA) (by omega) _ _ _ _
  by_cases h1 : 4096 < n
  · have HE := hide (over_out (Cs := Cs) (e := e) (.inr h1))
    obtain ⟨r0, r1, r2, r3, f0, f1, f2, f3⟩ := Vv.box_facts (unhide HBX)
    unfold Vv.noS at r1 r2 r3
    go_wp2
    refine bodyPost_ret (v := .tuple #[Vv.zeroVec, .int .i64 1]) (by simp [results, Tryz.results43, go_sem, Vv.zeroVec, *]) rfl (opost_zero (unhide HE) ?_)
    exact Vv.below_set4 (unhide HBA) (by omega) _ _ _ _
  obtain ⟨N, rfl⟩ : ∃ N : Nat, n = (N : Int) := ⟨n.toNat, by omega⟩
  have hN : N ≤ 4096 := by omega
  go_upto_region 4 with (at_make; refine Vv.wpList_make_rows _ rfl (.tmp 21) (.tmp 21) 23 rfl 3 i3 _ Tryz.underlying23 hi3 z30 1 z31 .i64 .i64 Cs.length rfl rfl (by rw [z32]; omega) (by omega) ?_)
  refine enter_with (fun wy => KI w e a c Cs (N : Int) 0 wy) ?_ ?_
  · have hal := below_alloc (Below.refl _ wa) (.cells (madeCells #[.int .i64 0] Cs.length) 3)
    refine ⟨below_alloc (unhide HBA) _, (unhide HSX).later hal, Vv.rowIs_later (unhide HBX) hal, ⟨fun _ => .int .i64 0, ?_, fun j x hj => absurd hj (by omega)⟩, fun j x hj => absurd hj (by omega)⟩
    have h := World.rowIs_made wa (.int .i64 0) Cs.length 3
    rw [hsa] at h
    simpa [Value.cells] using h
  intro wy HK0
  clear HBA HSX HBX h0 h1
  try rw [hsa]
  clear hsa
  go_wp2
  go_loopw [25] (fun i wr => ∃ k : Nat, k ≤ Cs.length ∧ i = .int .i64 (k : Int) ∧ Hid (KI w e a c Cs (N : Int) k wr)) (fun i _ => Cs.length - (intOf i).toNat)
  case atStart => exact ⟨0, Nat.zero_le _, rfl, unhide HK0⟩
  case round =>
    obtain ⟨k, hk, rfl, HK⟩ := hrel
    by_cases hlt : k < Cs.length
    · have h9 : (k : Int) < (Cs.length : Int) := by omega
      obtain ⟨⟨X, p⟩, hx⟩ : ∃ x, Cs[k]? = some x := ⟨_, List.getElem?_eq_getElem hlt⟩
      have hca := unhide HCA wr (unhide HK).bel
      have hva := hca.2 _ (List.mem_of_getElem? hx)
      have hsmx := unhide HSM _ (List.mem_of_getElem? hx)
      rcases hca.1 with e0 | ⟨bC, oC, rfl, hco⟩
      · rw [e0] at hlt; exact absurd hlt (by simp)
      obtain ⟨c0, c1, c2, c3⟩ := hco k _ hx
      dsimp only at c0 c1 c2 c3 hva hsmx
      have hal := below_alloc (Below.refl _ wr) (.cells #[.int .i64 X.k, .slice p.a1 X.nl.length p.c1, .slice p.a2 X.ns.length p.c2, .slice p.a3 X.ss.length p.c3] 29)
      have HG := hide (Vv.good_any X p _ hsmx (hva.later hal))
      rw [Vv.vecV_open] at HG
      have HR1 := hide (Vv.box4_alloc wr (.int .i64 X.k) (.slice p.a1 X.nl.length p.c1) (.slice p.a2 X.ns.length p.c2) (.slice p.a3 X.ss.length p.c3))
      have HK1 := hide ((unhide HK).later hal)
      cases hgd : Vv.goodB X with
      | false =>
        rw [hgd] at HG
        have HE := hide (over_bad (n := (N : Int)) (e := e) hx (by unfold badN; rw [hgd]; rfl))
        clear hx hca hva hsmx hco hal hgd HK
        go_wp2_with (go_at_call 8; refine (unhide HG).mono ?_; rintro r w2 ⟨rfl, hb2⟩; obtain ⟨r0, r1, r2, r3, f0, f1, f2, f3⟩ := Vv.box_facts ((unhide HK1).later hb2).box; unfold Vv.noS at r1 r2 r3)
        refine bodyPost_ret (v := .tuple #[Vv.zeroVec, .int .i64 1]) (by simp [results, Tryz.results43, go_sem, Vv.zeroVec, *]) rfl (opost_zero (unhide HE) ?_)
        exact Vv.below_set4 ((unhide HK1).later hb2).bel (by omega) _ _ _ _
      | true =>
        rw [hgd] at HG
        by_cases hl : X.nl.length = N
        · have hne : ((X.nl.length : Int) != (N : Int)) = false := by rw [hl]; simp
          have HST := hide (fun (w2 : World) (hb2 : Below (wr.alloc (.cells #[.int .i64 X.k, .slice p.a1 X.nl.length p.c1, .slice p.a2 X.ns.length p.c2, .slice p.a3 X.ss.length p.c3] 29)).heap.size _ w2) => ((unhide HK1).later hb2).step hx (by unfold badN; rw [hgd]; exact hne))
          clear hx hca hva hsmx hco hal hgd HK hl
          go_wp2_with (go_at_call 8; refine (unhide HG).mono ?_; rintro r w2 ⟨rfl, hb2⟩; obtain ⟨t0, t1, t2, t3, _⟩ := Vv.box_facts (Vv.rowIs_later (unhide HR1) hb2); obtain ⟨F, hF, _⟩ := ((unhide HK1).later hb2).ks; have g0 := hF.cell hlt; have g1 := hF.frozen k; clear hF)
          exact ⟨⟨k + 1, by omega, by go_num, unhide HST w2 hb2⟩, by simp [intOf]; omega⟩
        · have hne : ((X.nl.length : Int) != (N : Int)) = true := by simp; omega
          have HE := hide (over_bad (n := (N : Int)) (e := e) hx (by unfold badN; rw [hgd]; exact hne))
          clear hx hca hva hsmx hco hal hgd HK hl
          go_wp2_with (go_at_call 8; refine (unhide HG).mono ?_; rintro r w2 ⟨rfl, hb2⟩; obtain ⟨t0, t1, t2, t3, _⟩ := Vv.box_facts (Vv.rowIs_later (unhide HR1) hb2); obtain ⟨r0, r1, r2, r3, f0, f1, f2, f3⟩ := Vv.box_facts ((unhide HK1).later hb2).box; unfold Vv.noS at r1 r2 r3)
          refine bodyPost_ret (v := .tuple #[Vv.zeroVec, .int .i64 1]) (by simp [results, Tryz.results43, go_sem, Vv.zeroVec, *]) rfl (opost_zero (unhide HE) ?_)
          exact Vv.below_set4 ((unhide HK1).later hb2).bel (by omega) _ _ _ _
    · have h9 : ¬ (k : Int) < (Cs.length : Int) := by omega
      obtain rfl : k = Cs.length := by omega
      have hkl : (ksOf Cs).length = Cs.length := by simp [ksOf]
      have HKI := hide (kind_val (ksOf Cs) (by omega) (some ⟨w.heap.size + 2, 0, none⟩) Cs.length e (unhide HF) a c wr (unhide HAL wr (unhide HK).bel) (unhide HK).ints)
      rw [hkl, Ex.val_open] at HKI
      have hgood : ∀ c ∈ Cs, Vv.goodB c.1 = true ∧ c.1.nl.length = N := fun x hx => by
        obtain ⟨j, hj⟩ := List.mem_iff_getElem?.1 hx
        have hb := (unhide HK).ok j x (List.getElem?_eq_some_iff.1 hj).1 hj
        unfold badN at hb
        simp only [Bool.or_eq_false_iff, Bool.not_eq_false', bne_eq_false_iff_eq] at hb
        exact ⟨hb.1, by omega⟩
      have HOV := hide (over_in (e := e) (by omega) (by omega) (unhide HK).ok)
      obtain ⟨s0, s1, s2, s3, s4, s5⟩ := (unhide HK).six
      by_cases hE : kErr (ksOf Cs) e = 0
      · obtain ⟨hbt, hus⟩ := kerr_built hE
        rw [hkl] at hus
        have HOV2 : Hid (overV Cs (N : Int) e = (Vv.laidV (kindO (ksOf Cs) e) (valsO Cs N e), 0)) := by
          show _ = _
          rw [unhide HOV, hE]
          rfl
        have HVO := hide (fun (W : World) (hW : Below w.heap.size w W) => vover_any e hbt (unhide HF) Cs N hN (by omega) (unhide HSM) hgood (fun x hx i => good_ok (unhide HNS x hx) (hgood x hx).1 i) hus aC cC a c W (unhide HAL W hW) (unhide HCA W hW))
        have hfr := from_ok (n := N) (built_good hbt) (fun x hx => (hgood x hx).1) (fun x hx i => good_small (hgood x hx).1 i) hE
        have HFR := hide (fun (a' : Option Addr) (c' : Nat) (W : World) (h : RowAt W a' (valsO Cs N e)) => Vv.from_any a' c' (kindO (ksOf Cs) e) (valsO Cs N e) W (by simp [valsO]; omega) h)
        rw [hfr] at HFR
        have hvl : (valsO Cs N e).length = N := by simp [valsO]
        rw [hvl] at HFR
        have HKO : Hid (∀ kk, KR (ksOf Cs) e kk → kindO (ksOf Cs) e = if kk == 0 then 1 else kk) := fun kk h => by
          unfold kindO
          rw [h.1 hE]
          rfl
        rw [hE] at HKI
        have HVO2 : Hid (∀ (W : World), Below w.heap.size w W → Calls Tryz.prog 85 #[.agg #[.int .i64 e.op, .int .i64 e.n, .int .i64 e.v.k, .int .i64 e.v.n, .string e.v.s, .slice a e.args.length c], .slice aC Cs.length cC, .int .i64 (N : Int)] W fun r w' => ∃ a' c', r = .returned (.slice a' N c') ∧ RowAt w' a' (valsO Cs N e) ∧ Below W.heap.size W w') := fun W hW => by
          have h := unhide HVO W hW
          rw [Ex.val_open] at h
          refine h.mono fun r w' ⟨v, h1, h2, h3⟩ => ?_
          obtain ⟨a', c', h4, h5⟩ := ownV_row h2
          refine ⟨a', c', ?_, h5, h3⟩
          rw [h1, h4]
          simp
        generalize kindO (ksOf Cs) e = KD at *
        clear HVO hfr hgood HOV hvl hbt hus hkl
        go_upto_region 12 with (go_at_call 27; refine (unhide HKI).mono ?_; rintro r w2 ⟨⟨kk, rfl, hkr⟩, hb2⟩)
        have hKD := unhide HKO kk hkr
        have HK2 := hide ((unhide HK).later hb2)
        obtain ⟨s0, s1, s2, s3, s4, s5⟩ := (unhide HK2).six
        have HBB := hide ((unhide HK2).bel)
        have hw2 : w.heap.size + 1 < w2.heap.size := (unhide HK2).box.lt
        clear hkr hb2 HKI HKO hE
        by_cases hk0 : kk = 0
        · subst hk0
          have hKD1 : KD = 1 := hKD
          clear hKD
          subst hKD1
          go_wp2_with (first
            | (go_at_call 7; refine (unhide HFR a3 cc3 w3 hr3).mono ?_; rintro r w4 ⟨p4, rfl, hv4, hf4, hb4⟩; rw [Vv.vecV_open]; obtain ⟨r0, r1, r2, r3, f0, f1, f2, f3⟩ := Vv.box_facts ((unhide HK2).later (below_step hb3 hb4)).box; unfold Vv.noS at r1 r2 r3)
            | (go_at_call 85; refine (unhide HVO2 w2 (unhide HBB)).mono ?_; rintro r w3 ⟨a3, cc3, rfl, hr3, hb3⟩))
          refine bodyPost_ret (v := .tuple #[Vv.vecV (Vv.laidV 1 (valsO Cs N e)) p4, .int .i64 0]) (by simp [results, Tryz.results43, go_sem, Vv.vecV, *]) rfl ?_
          unfold OPost
          rw [unhide HOV2]
          exact ⟨p4, rfl, hv4.setO4 hf4 (by have := hb3.size; omega) _ _ _ _, Vv.below_set4 (below_step (unhide HBB) (below_step hb3 hb4)) (by omega) _ _ _ _⟩
        · have hk0' : (kk == 0) = false := by simpa using hk0
          have hKD1 : KD = kk := by rw [hKD, hk0']; rfl
          clear hKD
          subst hKD1
          go_wp2_with (first
            | (go_at_call 7; refine (unhide HFR a3 cc3 w3 hr3).mono ?_; rintro r w4 ⟨p4, rfl, hv4, hf4, hb4⟩; rw [Vv.vecV_open]; obtain ⟨r0, r1, r2, r3, f0, f1, f2, f3⟩ := Vv.box_facts ((unhide HK2).later (below_step hb3 hb4)).box; unfold Vv.noS at r1 r2 r3)
            | (go_at_call 85; refine (unhide HVO2 w2 (unhide HBB)).mono ?_; rintro r w3 ⟨a3, cc3, rfl, hr3, hb3⟩))
          refine bodyPost_ret (v := .tuple #[Vv.vecV (Vv.laidV KD (valsO Cs N e)) p4, .int .i64 0]) (by simp [results, Tryz.results43, go_sem, Vv.vecV, *]) rfl ?_
          unfold OPost
          rw [unhide HOV2]
          exact ⟨p4, rfl, hv4.setO4 hf4 (by have := hb3.size; omega) _ _ _ _, Vv.below_set4 (below_step (unhide HBB) (below_step hb3 hb4)) (by omega) _ _ _ _⟩
      · have hne : (kErr (ksOf Cs) e != 0) = true := by simpa using hE
        have HOV2 : Hid (overV Cs (N : Int) e = (Vv.Vc.zero, kErr (ksOf Cs) e)) := by
          show _ = _
          rw [unhide HOV, hne]
          rfl
        generalize kErr (ksOf Cs) e = E at *
        clear HOV hgood hkl hE
        go_wp2_with (go_at_call 27; refine (unhide HKI).mono ?_; rintro r w2 ⟨⟨kk, rfl, _⟩, hb2⟩; obtain ⟨r0, r1, r2, r3, f0, f1, f2, f3⟩ := Vv.box_facts ((unhide HK).later hb2).box; unfold Vv.noS at r1 r2 r3)
        refine bodyPost_ret (v := .tuple #[Vv.zeroVec, .int .i64 E]) (by simp [results, Tryz.results43, go_sem, Vv.zeroVec, *]) rfl (opost_zero (unhide HOV2) ?_)
        exact Vv.below_set4 ((unhide HK).later hb2).bel (by omega) _ _ _ _
end Go.Proofs.YtmjeiepljlepbacGreat

import Derived.Test.YtmjeiepljlepbacGreatOvF
import Derived.Test.YtmjeiepljlepbacGreatTabA
import Derived.Test.YtmjeiepljlepbacGreatEvD
set_option linter.unusedSimpArgs false
set_option linter.unusedVariables false
set_option maxRecDepth 100000
namespace Go.Proofs.YtmjeiepljlepbacGreat
open Go.RowKit Go.Sort Go.Deep

theorem wpList_append_intsL {ops : Array Oper} {rest : List Oper} {o : Oper} {a : Act} {Q : Exit → Act → World → Prop} (w : World) (hgd : o.guard = none) (s x : Operand) (ho : o.op = .call { callee := .builtin .append, args := #[s, x], argTypes := #[23, 23] })
    (base base2 : Nat) (v u : Value) (L1 L2 : List Int) (hs : a.eval s = v) (hown : OwnI w base v L1) (hx : a.eval x = u) (hown2 : OwnI w base2 u L2) (hl : L1.length + L2.length ≤ 4398046511104) (hbase : base ≤ w.heap.size)
    (h : ∀ v' w', OwnI w' base v' (L1 ++ L2) → Below base w w' → wpList Tryz.prog ops Q rest (a.put o.dst v') w') : wpList Tryz.prog ops Q (o :: rest) a w := by
  obtain ⟨i4, hi4, z40, z41, z42⟩ := info_parts info3
  rcases hown2.2 with ⟨rfl, h0⟩ | ⟨g, cap, cur, rfl, _⟩
  · have : L2 = [] := List.eq_nil_of_length_eq_zero h0
    subst this
    exact wpList_append_own_none hgd s x 23 ho base 3 i4 1 Tryz.underlying23 hi4 v L1.length _ hs hown hx (h v w (by rw [List.append_nil]; exact hown) (Below.refl _ _))
  · refine wpList_append_own_at w hgd s x 23 ho base 3 i4 (.int .i64 0) 1 8 Tryz.underlying23 hi4 z40 z41 z42 rfl (by decide) v L1.length (L1.map (.int .i64)) hs hown ⟨g, 0, none⟩ L2.length cap (L2.map (.int .i64)) hx (by simp) (World.ownsRow.cells hown2 rfl) (ints_one L2) (by unfold maxLen; omega) (by omega) hbase ?_
    intro v' w' h1 h2 _ _
    refine h v' w' ?_ (grown_below h2 hbase (own_ge hown))
    unfold OwnI
    rw [List.length_append, List.map_append]
    exact h1
/-- While the document's Over looks at the columns. -/
structure KJ (w : World) (e : Ex) (a : Option Addr) (c : Nat) (Cs : List Col) (n : Int) (k : Nat) (v : Value) (wr : World) : Prop where
  bel : Below w.heap.size w wr
  six : Six wr w.heap.size e a c
  box : wr.rowIs (w.heap.size + 1) 29 4 (Vv.box4 (.int .i64 0) Vv.noS Vv.noS Vv.noS)
  ks : OwnI wr (w.heap.size + 2) v (ksOf (Cs.take k))
  ok : ∀ (j : Nat) (x : Col), j < k → Cs[j]? = some x → badN n x = false
  sz : w.heap.size + 2 ≤ wr.heap.size
theorem KJ.later {w : World} {e : Ex} {a : Option Addr} {c : Nat} {Cs : List Col} {n : Int} {k : Nat} {v : Value} {wr w' : World} (h : KJ w e a c Cs n k v wr) (hb : Below wr.heap.size wr w') : KJ w e a c Cs n k v w' := by
  obtain ⟨h1, h2, h3, h4, h6, h7⟩ := h
  exact ⟨below_step h1 hb, h2.later hb, Vv.rowIs_later h3 hb, h4.later hb, h6, Nat.le_trans h7 hb.size⟩
theorem KJ.step {w : World} {e : Ex} {a : Option Addr} {c : Nat} {Cs : List Col} {n : Int} {k : Nat} {v v' : Value} {wr w' : World} {x : Col} (h : KJ w e a c Cs n k v wr) (hx : Cs[k]? = some x) (hb : badN n x = false) (hO : OwnI w' (w.heap.size + 2) v' (ksOf (Cs.take k) ++ [x.1.k])) (hB : Below (w.heap.size + 2) wr w') : KJ w e a c Cs n (k + 1) v' w' := by
  obtain ⟨h1, h2, h3, h4, h6, h7⟩ := h
  have hcell : ∀ g o, g < w.heap.size + 2 → w'.cell? ⟨g, o, none⟩ = wr.cell? ⟨g, o, none⟩ := fun g o hg => hB.cell (p := ⟨g, o, none⟩) hg
  refine ⟨h1.trans (hB.mono (by omega)), ?_, h3.of_block (hB.block _ (by omega)), ?_, fun j y hj hy => ?_, Nat.le_trans h7 hB.size⟩
  · obtain ⟨s0, s1, s2, s3, s4, s5⟩ := h2
    exact ⟨by rw [hcell _ _ (by omega)]; exact s0, by rw [hcell _ _ (by omega)]; exact s1, by rw [hcell _ _ (by omega)]; exact s2, by rw [hcell _ _ (by omega)]; exact s3, by rw [hcell _ _ (by omega)]; exact s4, by rw [hcell _ _ (by omega)]; exact s5⟩
  · have e1 : ksOf (Cs.take (k + 1)) = ksOf (Cs.take k) ++ [x.1.k] := by
      unfold ksOf
      rw [List.take_add_one, hx, List.map_append]
      rfl
    rw [e1]; exact hO
  · by_cases ej : j = k
    · subst ej
      rw [hx] at hy
      injection hy with hy
      subst hy
      exact hb
    · exact h6 j y (by omega) hy
/-- The rows of good columns, all of them as long. -/
theorem tab_good {Cs : List Col} {N : Nat} (h : ∀ c ∈ Cs, Vv.goodB c.1 = true ∧ c.1.nl.length = N) : Vv.tabV Cs = (Vv.rowsOf Cs, 0) ∧ ∀ i, i < N → (Vv.rowsOf Cs)[i]? = some (Vv.rowOf Cs i) ∨ (Vv.rowsOf Cs = [] ∧ Vv.rowOf Cs i = []) := by
  have hl : ∀ c ∈ Cs, Vv.len0 Cs = N := fun c hc => by
    cases Cs with
    | nil => cases hc
    | cons d l => exact (h d (by simp)).2
  constructor
  · unfold Vv.tabV
    rw [if_neg]
    rw [List.any_eq_true]
    rintro ⟨c, hc, hb⟩
    unfold Vv.badC at hb
    rw [(h c hc).1, (h c hc).2, hl c hc] at hb
    simp at hb
  · intro i hi
    cases Cs with
    | nil => exact .inr ⟨rfl, rfl⟩
    | cons d l => exact .inl (Vv.rowsOf_at _ (by rw [hl d (by simp)]; exact hi))
end Go.Proofs.YtmjeiepljlepbacGreat
set_option linter.unusedSimpArgs false
set_option linter.unusedVariables false
set_option maxRecDepth 100000
namespace Go.Proofs.YtmjeiepljlepbacGreat
open Go.RowKit Go.Sort Go.Deep

set_option maxHeartbeats 4000000 in
/-- tallyref.Over (44). -/
theorem rover_any (Cs : List Col) (n : Int) (e : Ex) (hf : e.fin) (hm : Cs.length ≤ 2199023255552) (hsm : ∀ c ∈ Cs, Vv.small c.1) (hns : ∀ c ∈ Cs, ∀ x ∈ c.1.ns, In64 x)
    (aC : Option Addr) (cC : Nat) (a : Option Addr) (c : Nat) (w : World) (ha : Ex.all w a e.args) (hC : Vv.ColsAt w aC Cs) :
    Calls Tryz.prog 44 #[e.val a c, .slice aC Cs.length cC, .int .i64 n] w (OPost (overV Cs n e) w) := by
  obtain ⟨i3, hi3, z30, z31, z32⟩ := info_parts info3
  have HSM := hide hsm
  have HNS := hide hns
  have HCA := hide (fun (W : World) (hW : Below w.heap.size w W) => hC.later hW)
  have HAL := hide (fun (W : World) (hW : Below w.heap.size w W) => Ex.all_later _ ha hW)
  have HF := hide hf
  obtain ⟨wa, hwa⟩ : ∃ wa, wa = (w.alloc (.cells #[.int .i64 e.op, .int .i64 e.n, .int .i64 e.v.k, .int .i64 e.v.n, .string e.v.s, .slice a e.args.length c] 59)).alloc (.cells #[.int .i64 0, .slice none 0 0, .slice none 0 0, .slice none 0 0] 29) := ⟨_, rfl⟩
  have hsz : (w.alloc (.cells #[.int .i64 e.op, .int .i64 e.n, .int .i64 e.v.k, .int .i64 e.v.n, .string e.v.s, .slice a e.args.length c] 59)).heap.size = w.heap.size + 1 := by simp [go_sem]
  have hsa : wa.heap.size = w.heap.size + 2 := by rw [hwa]; simp [go_sem]
  have HBA : Hid (Below w.heap.size w wa) := by rw [hwa]; exact below_alloc (below_alloc (Below.refl _ w) _) _
  have HSX : Hid (Six wa w.heap.size e a c) := by rw [hwa]; exact (Six.new w e a c).later (below_alloc (Below.refl _ _) _)
  have HBX : Hid (wa.rowIs (w.heap.size + 1) 29 4 (Vv.box4 (.int .i64 0) Vv.noS Vv.noS Vv.noS)) := by
    have h := Vv.box4_alloc (w.alloc (.cells #[.int .i64 e.op, .int .i64 e.n, .int .i64 e.v.k, .int .i64 e.v.n, .string e.v.s, .slice a e.args.length c] 59)) (.int .i64 0) (.slice none 0 0) (.slice none 0 0) (.slice none 0 0)
    rw [hsz] at h
    rw [hwa]
    exact h
  rw [Ex.val_open]
  clear ha hC hsm hns hf hsz
  go_enter Tryz.func44, Tryz.ntmps44
  go_upto_region 1 with fail
  rw [← hwa]
  clear hwa
  by_cases h0 : n < 0
  · have HE := hide (over_out (Cs := Cs) (e := e) (.inl h0))
    obtain ⟨r0, r1, r2, r3, f0, f1, f2, f3⟩ := Vv.box_facts (unhide HBX)
    unfold Vv.noS at r1 r2 r3
    go_wp2
    refine bodyPost_ret (v := .tuple #[Vv.zeroVec, .int .i64 1]) (by simp [results, Tryz.results44, go_sem, Vv.zeroVec, *]) rfl (opost_zero (unhide HE) ?_)
    exact Vv.below_set4 (unhide HBA) (by omega) _ _ _ _
  by_cases h1 : 4096 < n
  · have HE := hide (over_out (Cs := Cs) (e := e) (.inr h1))
    obtain ⟨r0, r1, r2, r3, f0, f1, f2, f3⟩ := Vv.box_facts (unhide HBX)
    unfold Vv.noS at r1 r2 r3
    go_wp2
    refine bodyPost_ret (v := .tuple #[Vv.zeroVec, .int .i64 1]) (by simp [results, Tryz.results44, go_sem, Vv.zeroVec, *]) rfl (opost_zero (unhide HE) ?_)
    exact Vv.below_set4 (unhide HBA) (by omega) _ _ _ _
  obtain ⟨N, rfl⟩ : ∃ N : Nat, n = (N : Int) := ⟨n.toNat, by omega⟩
  have hN : N ≤ 4096 := by omega
  refine enter_with (fun wy => KJ w e a c Cs (N : Int) 0 (.slice none 0 0) wy) ⟨unhide HBA, unhide HSX, unhide HBX, own_nil _ _, fun j x hj => absurd hj (by omega), by omega⟩ ?_
  intro wy HK0
  clear HBA HSX HBX h0 h1 hsa
  go_wp2
  go_loopw [8, 29] (fun s i wr => ∃ (k : Nat) (v : Value), k ≤ Cs.length ∧ i = .int .i64 (k : Int) ∧ s = v ∧ Hid (KJ w e a c Cs (N : Int) k v wr)) (fun _ i _ => Cs.length - (intOf i).toNat)
  case atStart => exact ⟨0, _, Nat.zero_le _, rfl, rfl, unhide HK0⟩
  case round =>
    obtain ⟨k, v, hk, rfl, rfl, HK⟩ := hrel
    obtain ⟨aV, cV, rfl⟩ := (unhide HK).ks.slice
    have hkt : (ksOf (Cs.take k)).length = k := by simp [ksOf]; omega
    rw [hkt] at HK ⊢
    by_cases hlt : k < Cs.length
    · have h9 : (k : Int) < (Cs.length : Int) := by omega
      obtain ⟨⟨X, p⟩, hx⟩ : ∃ x, Cs[k]? = some x := ⟨_, List.getElem?_eq_getElem hlt⟩
      have hca := unhide HCA wr (unhide HK).bel
      have hva := hca.2 _ (List.mem_of_getElem? hx)
      have hsmx := unhide HSM _ (List.mem_of_getElem? hx)
      rcases hca.1 with e0 | ⟨bC, oC, rfl, hco⟩
      · rw [e0] at hlt; exact absurd hlt (by simp)
      obtain ⟨c0, c1, c2, c3⟩ := hco k _ hx
      dsimp only at c0 c1 c2 c3 hva hsmx
      have hal := below_alloc (Below.refl _ wr) (.cells #[.int .i64 X.k, .slice p.a1 X.nl.length p.c1, .slice p.a2 X.ns.length p.c2, .slice p.a3 X.ss.length p.c3] 29)
      have HG := hide (Vv.rgood_any X p _ hsmx (hva.later hal))
      rw [Vv.vecV_open] at HG
      have HR1 := hide (Vv.box4_alloc wr (.int .i64 X.k) (.slice p.a1 X.nl.length p.c1) (.slice p.a2 X.ns.length p.c2) (.slice p.a3 X.ss.length p.c3))
      have HK1 := hide ((unhide HK).later hal)
      cases hgd : Vv.goodB X with
      | false =>
        rw [hgd] at HG
        have HE := hide (over_bad (n := (N : Int)) (e := e) hx (by unfold badN; rw [hgd]; rfl))
        clear hx hca hva hsmx hco hal hgd HK
        go_wp2_with (go_at_call 86; refine (unhide HG).mono ?_; rintro r w2 ⟨rfl, hb2⟩; obtain ⟨r0, r1, r2, r3, f0, f1, f2, f3⟩ := Vv.box_facts ((unhide HK1).later hb2).box; unfold Vv.noS at r1 r2 r3)
        refine bodyPost_ret (v := .tuple #[Vv.zeroVec, .int .i64 1]) (by simp [results, Tryz.results44, go_sem, Vv.zeroVec, *]) rfl (opost_zero (unhide HE) ?_)
        exact Vv.below_set4 ((unhide HK1).later hb2).bel (by omega) _ _ _ _
      | true =>
        rw [hgd] at HG
        by_cases hl : X.nl.length = N
        · have hne : ((X.nl.length : Int) != (N : Int)) = false := by rw [hl]; simp
          have HST := hide (fun (w2 w4 : World) (v4 : Value) (hb2 : Below (wr.alloc (.cells #[.int .i64 X.k, .slice p.a1 X.nl.length p.c1, .slice p.a2 X.ns.length p.c2, .slice p.a3 X.ss.length p.c3] 29)).heap.size _ w2) (hO : OwnI w4 (w.heap.size + 2) v4 (ksOf (Cs.take k) ++ [X.k])) (hB : Below (w.heap.size + 2) w2 w4) => ((unhide HK1).later hb2).step hx (by unfold badN; rw [hgd]; exact hne) hO hB)
          clear hx hca hva hsmx hco hal hgd HK hl
          go_wp2_with (first
            | (at_builtin; go_loud (refine wpList_append_intsL (w2.alloc (.cells #[.int .i64 X.k] 3)) rfl (.tmp 44) (.tmp 47) rfl (w.heap.size + 2) w2.heap.size (.slice aV k cV) (.slice (some ⟨w2.heap.size, 0, none⟩) 1 1) (ksOf (Cs.take k)) [X.k] rfl (((unhide HK1).later hb2).ks.later (below_alloc (Below.refl _ _) _)) rfl (own_single w2 w2.heap.size (Nat.le_refl _) X.k) (by rw [hkt]; show k + 1 ≤ _; omega) (Nat.le_trans ((unhide HK1).later hb2).sz (below_alloc (Below.refl _ w2) _).size) ?_); intro v4 w4 hO4 hb4; have HO4 := hide hO4; clear hO4)
            | (go_at_call 86; refine (unhide HG).mono ?_; rintro r w2 ⟨rfl, hb2⟩; obtain ⟨t0, t1, t2, t3, _⟩ := Vv.box_facts (Vv.rowIs_later (unhide HR1) hb2)))
          exact ⟨⟨k + 1, v4, by omega, by go_num, rfl, unhide HST w2 w4 v4 hb2 (unhide HO4) ((below_alloc (Below.refl _ w2) (.cells #[.int .i64 X.k] 3)).mono ((unhide HK1).later hb2).sz |>.trans hb4)⟩, by simp [intOf]; omega⟩
        · have hne : ((X.nl.length : Int) != (N : Int)) = true := by simp; omega
          have HE := hide (over_bad (n := (N : Int)) (e := e) hx (by unfold badN; rw [hgd]; exact hne))
          clear hx hca hva hsmx hco hal hgd HK hl
          go_wp2_with (go_at_call 86; refine (unhide HG).mono ?_; rintro r w2 ⟨rfl, hb2⟩; obtain ⟨t0, t1, t2, t3, _⟩ := Vv.box_facts (Vv.rowIs_later (unhide HR1) hb2); obtain ⟨r0, r1, r2, r3, f0, f1, f2, f3⟩ := Vv.box_facts ((unhide HK1).later hb2).box; unfold Vv.noS at r1 r2 r3)
          refine bodyPost_ret (v := .tuple #[Vv.zeroVec, .int .i64 1]) (by simp [results, Tryz.results44, go_sem, Vv.zeroVec, *]) rfl (opost_zero (unhide HE) ?_)
          exact Vv.below_set4 ((unhide HK1).later hb2).bel (by omega) _ _ _ _
    · have h9 : ¬ (k : Int) < (Cs.length : Int) := by omega
      obtain rfl : k = Cs.length := by omega
      have hks := (unhide HK).ks
      rw [List.take_length] at hks
      have hkl : (ksOf Cs).length = Cs.length := by simp [ksOf]
      have HKI := hide (rkind_val (ksOf Cs) (by omega) aV cV e (unhide HF) a c wr (unhide HAL wr (unhide HK).bel) hks.ints)
      rw [hkl, Ex.val_open] at HKI
      have hgood : ∀ c ∈ Cs, Vv.goodB c.1 = true ∧ c.1.nl.length = N := fun x hx => by
        obtain ⟨j, hj⟩ := List.mem_iff_getElem?.1 hx
        have hb := (unhide HK).ok j x (List.getElem?_eq_some_iff.1 hj).1 hj
        unfold badN at hb
        simp only [Bool.or_eq_false_iff, Bool.not_eq_false', bne_eq_false_iff_eq] at hb
        exact ⟨hb.1, by omega⟩
      have HOV := hide (over_in (e := e) (by omega) (by omega) (unhide HK).ok)
      obtain ⟨s0, s1, s2, s3, s4, s5⟩ := (unhide HK).six
      by_cases hE : kErr (ksOf Cs) e = 0
      · obtain ⟨hbt, hus⟩ := kerr_built hE
        rw [hkl] at hus
        have HOV2 : Hid (overV Cs (N : Int) e = (Vv.laidV (kindO (ksOf Cs) e) (valsO Cs N e), 0)) := by
          show _ = _
          rw [unhide HOV, hE]
          rfl
        have hfr := from_ok (n := N) (built_good hbt) (fun x hx => (hgood x hx).1) (fun x hx i => good_small (hgood x hx).1 i) hE
        have HFR := hide (fun (a' : Option Addr) (c' : Nat) (W : World) (h : RowAt W a' (valsO Cs N e)) => Vv.rfrom_any a' c' (kindO (ksOf Cs) e) (valsO Cs N e) W (by simp [valsO]; omega) h)
        rw [hfr] at HFR
        have hvl : (valsO Cs N e).length = N := by simp [valsO]
        rw [hvl] at HFR
        have HKO : Hid (∀ kk, KR (ksOf Cs) e kk → kindO (ksOf Cs) e = (if kk == 0 then 1 else kk) ∧ (kk = 0 ∨ kk = 1 ∨ kk = 2)) := fun kk h => by
          refine ⟨?_, kE_range (ksOf Cs) (fun q hq => ?_) e (built_good hbt) kk (h.1 hE)⟩
          · unfold kindO
            rw [h.1 hE]
            rfl
          · obtain ⟨x, hx, rfl⟩ := List.mem_map.1 hq
            exact good_kind (hgood x hx).1
        rw [hE] at HKI
        obtain ⟨htab, hrows⟩ := tab_good hgood
        have HAX := hide (fun (W : World) (hW : Below w.heap.size w W) => Vv.across_any aC cC Cs W hm (fun x hx => by have := (hgood x hx).2; omega) (unhide HSM) (unhide HCA W hW))
        rw [htab] at HAX
        unfold Vv.RowsV at HAX
        have HROWS := hide hrows
        have HEVA := hide (fun (i : Nat) (aR : Option Addr) (cR : Nat) (W : World) (hW : Below w.heap.size w W) (hr : RowAt W aR (Vv.rowOf Cs i)) => reval_any (Vv.rowOf Cs i) (fun x hx => by
          obtain ⟨y, hy, rfl⟩ := List.mem_map.1 hx
          exact good_ok (unhide HNS y hy) (hgood y hy).1 i) (by rw [Vv.rowOf_len]; omega) aR cR e (unhide HF) (built_good hbt) a c W (unhide HAL W hW) hr)
        have hrl : (Vv.rowsOf Cs).length ≤ N := by
          cases Cs with
          | nil => exact Nat.zero_le _
          | cons d l => simp [Vv.rowsOf, Vv.len0]; exact Nat.le_of_eq (hgood d (by simp)).2
        generalize kindO (ksOf Cs) e = KD at *
        clear hfr hgood HOV hvl hbt hus htab hrows hks
        go_upto_region 12 with (go_at_call 28; refine (unhide HKI).mono ?_; rintro r w2 ⟨⟨kk, rfl, hkr⟩, hb2⟩)
        obtain ⟨hKD, hk3⟩ := unhide HKO kk hkr
        have HK2 := hide ((unhide HK).later hb2)
        have HAX2 := hide (unhide HAX w2 (unhide HK2).bel)
        clear hkr hb2 HKI HKO hE HK HAX
        go_upto_region 15 with (go_at_call 87; refine (unhide HAX2).mono ?_; rintro r w3 ⟨v3, rfl, ⟨ra, rc, rfl, hra⟩, hb3⟩)
        refine enter_with (fun w5 => KJ w e a c Cs (N : Int) Cs.length (.slice aV Cs.length cV) w5 ∧ Vv.RowsAt w5 ra (Vv.rowsOf Cs)) ⟨(unhide HK2).later hb3, hra⟩ ?_
        intro w5 H5
        clear hra hb3 HK2 HAX2
        have HB5 := hide (unhide H5).1.bel
        have hw5 : w.heap.size + 1 < w5.heap.size := (unhide H5).1.box.lt
        go_wp2
        go_loopw [15, 16] (fun s i wr => ∃ (k : Nat) (v : Value), k ≤ N ∧ i = .int .i64 (k : Int) ∧ s = v ∧ Hid (OwnV wr w5.heap.size v ((List.range k).map fun i => evalE (Vv.rowOf Cs i) e) ∧ Below w5.heap.size w5 wr)) (fun _ i _ => N - (intOf i).toNat)
        case atStart => exact ⟨0, _, Nat.zero_le _, rfl, rfl, World.ownsRow_nil _ _ _ _, Below.refl _ _⟩
        case round =>
          obtain ⟨k, v, hk, rfl, rfl, HI⟩ := hrel
          obtain ⟨hO, hB⟩ := unhide HI
          obtain ⟨a9, cap9, rfl, hrow⟩ := ownV_row hO
          rw [List.length_map, List.length_range] at hO ⊢
          by_cases hlt : k < N
          · have h9 : (k : Int) < (N : Int) := by omega
            have HTK : Hid ((List.range (k + 1)).map (fun i => evalE (Vv.rowOf Cs i) e) = (List.range k).map (fun i => evalE (Vv.rowOf Cs i) e) ++ [evalE (Vv.rowOf Cs k) e]) := by
              show _ = _
              rw [List.range_succ, List.map_append]
              rfl
            have HO := hide hO
            have HBr := hide hB
            have HBW := hide (below_step (unhide HB5) hB)
            obtain ⟨s0, s1, s2, s3, s4, s5⟩ := (unhide H5).1.six.later hB
            rcases unhide HROWS k hlt with hr | ⟨hr1, hr2⟩
            · have hk2 : k < (Vv.rowsOf Cs).length := (List.getElem?_eq_some_iff.1 hr).1
              have h8 : (k : Int) < ((Vv.rowsOf Cs).length : Int) := by omega
              rcases ((unhide H5).2.later hB) with e0 | ⟨bR, oR, rfl, hcells⟩
              · rw [e0] at hk2; exact absurd hk2 (by simp)
              obtain ⟨ra', rc', d0, hra'⟩ := hcells k _ hr
              have HE := hide (unhide HEVA k ra' rc' wr (unhide HBW) hra')
              rw [Ex.val_open] at HE
              generalize evalE (Vv.rowOf Cs k) e = xv at *
              clear hr hcells hra' hO hB HI hrow
              go_wp2_with (first
                | (go_at_call 73; refine (unhide HE).mono ?_; rintro r w3 ⟨rfl, hb3⟩; rw [Val.open_])
                | (at_builtin; refine wpList_push_val (w3.alloc (.cells #[.int .i64 xv.k, .int .i64 xv.n, .string xv.s] 38)) rfl (.tmp 78) (.tmp 82) rfl w5.heap.size (.slice a9 k cap9) _ rfl ((unhide HO).later (below_alloc hb3 _)) w3.heap.size xv rfl (by refine ⟨?_, ?_, ?_⟩ <;> simp [go_sem]) (by rw [List.length_map, List.length_range]; omega) (below_alloc (below_step (unhide HBr) hb3) _).size ?_; intro v4 w4 hO4 hb4; have HO4 := hide hO4; clear hO4))
              refine ⟨⟨k + 1, v4, by omega, by go_num, rfl, ?_, ((below_alloc (below_step (unhide HBr) hb3) _).trans hb4)⟩, by simp [intOf]; omega⟩
              rw [unhide HTK]
              exact unhide HO4
            · have h8 : ¬ (k : Int) < ((Vv.rowsOf Cs).length : Int) := by rw [hr1]; simp
              have hEV := unhide HEVA k none 0 wr (unhide HBW) (by rw [hr2]; exact .inl rfl)
              rw [hr2] at hEV HTK
              have HE := hide hEV
              rw [Ex.val_open] at HE
              generalize evalE [] e = xv at *
              clear hr1 hr2 hEV hO hB HI hrow
              go_wp2_with (first
                | (go_at_call 73; refine (unhide HE).mono ?_; rintro r w3 ⟨rfl, hb3⟩; rw [Val.open_])
                | (at_builtin; refine wpList_push_val (w3.alloc (.cells #[.int .i64 xv.k, .int .i64 xv.n, .string xv.s] 38)) rfl (.tmp 78) (.tmp 82) rfl w5.heap.size (.slice a9 k cap9) _ rfl ((unhide HO).later (below_alloc hb3 _)) w3.heap.size xv rfl (by refine ⟨?_, ?_, ?_⟩ <;> simp [go_sem]) (by rw [List.length_map, List.length_range]; omega) (below_alloc (below_step (unhide HBr) hb3) _).size ?_; intro v4 w4 hO4 hb4; have HO4 := hide hO4; clear hO4))
              refine ⟨⟨k + 1, v4, by omega, by go_num, rfl, ?_, ((below_alloc (below_step (unhide HBr) hb3) _).trans hb4)⟩, by simp [intOf]; omega⟩
              rw [unhide HTK]
              exact unhide HO4
          · have h9 : ¬ (k : Int) < (N : Int) := by omega
            obtain rfl : k = N := by omega
            have HF2 := hide (unhide HFR a9 cap9 wr hrow)
            have HBr := hide hB
            have HBW := hide (below_step (unhide HB5) hB)
            have HX5 := hide (fun (W : World) (hW : Below wr.heap.size wr W) => ((unhide H5).1.later (below_step hB hW)).box)
            have hwr : w.heap.size + 1 < wr.heap.size := Nat.lt_of_lt_of_le hw5 hB.size
            clear hO hB HI hrow HROWS HEVA HFR
            rcases hk3 with rfl | rfl | rfl
            · have hKD1 : KD = 1 := hKD
              clear hKD
              subst hKD1
              generalize Vv.laidV 1 (valsO Cs k e) = X at *
              go_wp2_with (go_at_call 88; refine (unhide HF2).mono ?_; rintro r w4 ⟨p4, rfl, hv4, hf4, hb4⟩; rw [Vv.vecV_open]; obtain ⟨r0, r1, r2, r3, f0, f1, f2, f3⟩ := Vv.box_facts (unhide HX5 _ (below_alloc hb4 (.cells #[.int .i64 X.k, .slice p4.a1 X.nl.length p4.c1, .slice p4.a2 X.ns.length p4.c2, .slice p4.a3 X.ss.length p4.c3] 29))); unfold Vv.noS at r1 r2 r3)
              refine bodyPost_ret (v := .tuple #[Vv.vecV X p4, .int .i64 0]) (by simp [results, Tryz.results44, go_sem, Vv.vecV, *]) rfl ?_
              unfold OPost
              rw [unhide HOV2]
              exact ⟨p4, rfl, (hv4.later (below_alloc (Below.refl _ _) _)).setO4 hf4 (by omega) _ _ _ _, Vv.below_set4 (below_alloc (below_step (unhide HBW) hb4) _) (by omega) _ _ _ _⟩
            · have hKD1 : KD = 1 := hKD
              clear hKD
              subst hKD1
              generalize Vv.laidV 1 (valsO Cs k e) = X at *
              go_wp2_with (go_at_call 88; refine (unhide HF2).mono ?_; rintro r w4 ⟨p4, rfl, hv4, hf4, hb4⟩; rw [Vv.vecV_open]; obtain ⟨r0, r1, r2, r3, f0, f1, f2, f3⟩ := Vv.box_facts (unhide HX5 _ (below_alloc hb4 (.cells #[.int .i64 X.k, .slice p4.a1 X.nl.length p4.c1, .slice p4.a2 X.ns.length p4.c2, .slice p4.a3 X.ss.length p4.c3] 29))); unfold Vv.noS at r1 r2 r3)
              refine bodyPost_ret (v := .tuple #[Vv.vecV X p4, .int .i64 0]) (by simp [results, Tryz.results44, go_sem, Vv.vecV, *]) rfl ?_
              unfold OPost
              rw [unhide HOV2]
              exact ⟨p4, rfl, (hv4.later (below_alloc (Below.refl _ _) _)).setO4 hf4 (by omega) _ _ _ _, Vv.below_set4 (below_alloc (below_step (unhide HBW) hb4) _) (by omega) _ _ _ _⟩
            · have hKD1 : KD = 2 := hKD
              clear hKD
              subst hKD1
              generalize Vv.laidV 2 (valsO Cs k e) = X at *
              go_wp2_with (go_at_call 88; refine (unhide HF2).mono ?_; rintro r w4 ⟨p4, rfl, hv4, hf4, hb4⟩; rw [Vv.vecV_open]; obtain ⟨r0, r1, r2, r3, f0, f1, f2, f3⟩ := Vv.box_facts (unhide HX5 _ (below_alloc hb4 (.cells #[.int .i64 X.k, .slice p4.a1 X.nl.length p4.c1, .slice p4.a2 X.ns.length p4.c2, .slice p4.a3 X.ss.length p4.c3] 29))); unfold Vv.noS at r1 r2 r3)
              refine bodyPost_ret (v := .tuple #[Vv.vecV X p4, .int .i64 0]) (by simp [results, Tryz.results44, go_sem, Vv.vecV, *]) rfl ?_
              unfold OPost
              rw [unhide HOV2]
              exact ⟨p4, rfl, (hv4.later (below_alloc (Below.refl _ _) _)).setO4 hf4 (by omega) _ _ _ _, Vv.below_set4 (below_alloc (below_step (unhide HBW) hb4) _) (by omega) _ _ _ _⟩
      · have hne : (kErr (ksOf Cs) e != 0) = true := by simpa using hE
        have HOV2 : Hid (overV Cs (N : Int) e = (Vv.Vc.zero, kErr (ksOf Cs) e)) := by
          show _ = _
          rw [unhide HOV, hne]
          rfl
        generalize kErr (ksOf Cs) e = E at *
        clear HOV hgood hkl hE hks
        go_wp2_with (go_at_call 28; refine (unhide HKI).mono ?_; rintro r w2 ⟨⟨kk, rfl, _⟩, hb2⟩; obtain ⟨r0, r1, r2, r3, f0, f1, f2, f3⟩ := Vv.box_facts ((unhide HK).later hb2).box; unfold Vv.noS at r1 r2 r3)
        refine bodyPost_ret (v := .tuple #[Vv.zeroVec, .int .i64 E]) (by simp [results, Tryz.results44, go_sem, Vv.zeroVec, *]) rfl (opost_zero (unhide HOV2) ?_)
        exact Vv.below_set4 ((unhide HK).later hb2).bel (by omega) _ _ _ _
end Go.Proofs.YtmjeiepljlepbacGreat
set_option linter.unusedSimpArgs false
set_option linter.unusedVariables false
set_option maxRecDepth 100000
namespace Go.Proofs.YtmjeiepljlepbacGreat
open Go.RowKit Go.Sort Go.Deep

set_option maxHeartbeats 400000 in
/-- tallylaw.num (29). -/
theorem lawnumO_any (n : Int) (w : World) : Calls Tryz.prog 29 #[.int .i64 n] w fun r w' => r = .returned (.int .i64 n) ∧ Below w.heap.size w w' := by
  go_enter Tryz.func29, Tryz.ntmps29
  go_wp2
  go_ret
  exact ⟨rfl, by first | exact Below.refl _ _ | exact below_alloc (Below.refl _ _) _⟩
theorem over_fit {Cs : List Col} {n : Int} {e : Ex} : Vv.fit (overV Cs n e).1 := by
  have z : Vv.fit Vv.Vc.zero := ⟨Nat.zero_le _, Nat.zero_le _, Nat.zero_le _⟩
  unfold overV
  split
  · exact z
  · rename_i h
    simp only [Bool.or_eq_true, decide_eq_true_eq, not_or] at h
    split
    · exact z
    · split
      · exact z
      · have hl : (valsO Cs n.toNat e).length ≤ 4096 := by simp [valsO]; omega
        have hm : (4096 : Nat) ≤ maxLen := by unfold maxLen; omega
        refine ⟨?_, ?_, ?_⟩
        · show (Vv.nlOf (valsO Cs n.toNat e)).length ≤ _
          unfold Vv.nlOf
          rw [List.length_map]; omega
        · show (if _ then _ else _ : List Int).length ≤ _
          split
          · rw [List.length_map]; omega
          · exact Nat.zero_le _
        · show (if _ then _ else _ : List ByteArray).length ≤ _
          split
          · exact Nat.zero_le _
          · rw [List.length_map]; omega
set_option maxHeartbeats 1000000 in
/-- The law: what both sides' Over answers is the same. -/
theorem law_eo (Cs : List Col) (n : Int) (e : Ex) (hf : e.fin) (hm : Cs.length ≤ 2199023255552) (hsm : ∀ c ∈ Cs, Vv.small c.1) (hns : ∀ c ∈ Cs, ∀ x ∈ c.1.ns, In64 x)
    (aC : Option Addr) (cC : Nat) (a : Option Addr) (c : Nat) (w : World) (ha : Ex.all w a e.args) (hC : Vv.ColsAt w aC Cs) :
    Calls Tryz.prog 5 #[e.val a c, .slice aC Cs.length cC, .int .i64 n] w fun r w' => r = .returned (.bool true) ∧ Below w.heap.size w w' := by
  have HO1 := hide (fun (W : World) (hW : Below w.heap.size w W) => over_any Cs n e hf hm hsm hns aC cC a c W (Ex.all_later _ ha hW) (hC.later hW))
  have HO2 := hide (fun (W : World) (hW : Below w.heap.size w W) => rover_any Cs n e hf hm hsm hns aC cC a c W (Ex.all_later _ ha hW) (hC.later hW))
  have HNU := hide lawnumO_any
  have HSV := hide (fun (p q : Vv.Sl) (W : World) (h1 : Vv.VecAt W (overV Cs n e).1 p) (h2 : Vv.VecAt W (overV Cs n e).1 q) => Vv.samevec_same (overV Cs n e).1 p q W over_fit h1 h2)
  unfold OPost at HO1 HO2
  generalize overV Cs n e = XE at *
  obtain ⟨X, E⟩ := XE
  simp only at HO1 HO2 HSV
  simp only [Vv.vecV_open] at HSV
  have H6 := hide (Six.new w e a c)
  have HB0 := hide (below_alloc (Below.refl _ w) (.cells #[.int .i64 e.op, .int .i64 e.n, .int .i64 e.v.k, .int .i64 e.v.n, .string e.v.s, .slice a e.args.length c] 59))
  rw [Ex.val_open] at HO1 HO2 ⊢
  clear ha hC hsm hns hf
  go_enter Tryz.func5, Tryz.ntmps5
  go_upto_region 2 with (go_at_call 43; refine (unhide HO1 _ (unhide HB0)).mono ?_; rintro r w1 ⟨p1, rfl, hv1, hb1⟩; rw [Vv.vecV_open])
  obtain ⟨b7, hb7⟩ : ∃ b7, b7 = w1.heap.size := ⟨_, rfl⟩
  refine enter_with (fun wx => Six wx w.heap.size e a c ∧ wx.rowIs b7 29 4 (Vv.box4 (.int .i64 X.k) (.slice p1.a1 X.nl.length p1.c1) (.slice p1.a2 X.ns.length p1.c2) (.slice p1.a3 X.ss.length p1.c3)) ∧ Vv.VecAt wx X p1 ∧ Below w.heap.size w wx) ?_ ?_
  · have hal := below_alloc (Below.refl _ w1) (.cells #[.int .i64 X.k, .slice p1.a1 X.nl.length p1.c1, .slice p1.a2 X.ns.length p1.c2, .slice p1.a3 X.ss.length p1.c3] 29)
    exact ⟨((unhide H6).later hb1).later hal, by rw [hb7]; exact Vv.box4_alloc w1 _ _ _ _, hv1.later hal, below_alloc (below_step (unhide HB0) hb1) _⟩
  intro wx HX
  rw [← hb7]
  clear hb7 hv1 hb1 H6 HB0
  obtain ⟨⟨s0, s1, s2, s3, s4, s5⟩, _, _, hBx⟩ := unhide HX
  go_upto_region 3 with (go_at_call 44; refine (unhide HO2 wx hBx).mono ?_; rintro r w2 ⟨p2, rfl, hv2, hb2⟩; rw [Vv.vecV_open])
  obtain ⟨b9, hb9⟩ : ∃ b9, b9 = w2.heap.size := ⟨_, rfl⟩
  refine enter_with (fun wz => (wz.rowIs b7 29 4 (Vv.box4 (.int .i64 X.k) (.slice p1.a1 X.nl.length p1.c1) (.slice p1.a2 X.ns.length p1.c2) (.slice p1.a3 X.ss.length p1.c3)) ∧ Vv.VecAt wz X p1) ∧ (wz.rowIs b9 29 4 (Vv.box4 (.int .i64 X.k) (.slice p2.a1 X.nl.length p2.c1) (.slice p2.a2 X.ns.length p2.c2) (.slice p2.a3 X.ss.length p2.c3)) ∧ Vv.VecAt wz X p2) ∧ Below w.heap.size w wz) ?_ ?_
  · have hal := below_alloc (Below.refl _ w2) (.cells #[.int .i64 X.k, .slice p2.a1 X.nl.length p2.c1, .slice p2.a2 X.ns.length p2.c2, .slice p2.a3 X.ss.length p2.c3] 29)
    exact ⟨⟨Vv.rowIs_later (Vv.rowIs_later (unhide HX).2.1 hb2) hal, ((unhide HX).2.2.1.later hb2).later hal⟩, ⟨by rw [hb9]; exact Vv.box4_alloc w2 _ _ _ _, hv2.later hal⟩, below_alloc (below_step hBx hb2) _⟩
  intro wz HZ
  rw [← hb9]
  clear hb9 hv2 hb2 hBx s0 s1 s2 s3 s4 s5 HX HO1 HO2
  have HN1 := hide (unhide HNU E wz)
  go_wp2_with (first
    | (go_at_call 45; refine (unhide HSV p1 p2 w3 ((unhide HZ).1.2.later hb3) ((unhide HZ).2.1.2.later hb3)).mono ?_; rintro r w4 ⟨rfl, hb4⟩)
    | (go_at_call 29; refine (unhide HN1).mono ?_; rintro r w3 ⟨rfl, hb3⟩; obtain ⟨x0, x1, x2, x3, _⟩ := Vv.box_facts (Vv.rowIs_later (unhide HZ).1.1 hb3); obtain ⟨y0, y1, y2, y3, _⟩ := Vv.box_facts (Vv.rowIs_later (unhide HZ).2.1.1 hb3)))
  go_ret
  exact ⟨rfl, below_step (unhide HZ).2.2 (below_step hb3 hb4)⟩
end Go.Proofs.YtmjeiepljlepbacGreat

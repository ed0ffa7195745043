import Derived.Test.YtcbenpodohjbiaaGreatSqV
import Derived.Test.YtcbenpodohjbiaaGreatSqX
set_option linter.unusedSimpArgs false
set_option linter.unusedVariables false
set_option maxRecDepth 100000
namespace Go.Proofs.YtcbenpodohjbiaaGreat
open Go.RowKit Go.Sort

theorem rowsOf_range (R : List (List (List Val))) : rowsOf R (List.range R.length) = R.flatten := by
  unfold rowsOf
  rw [List.flatMap_def]
  congr 1
  apply List.ext_getElem?
  intro i
  rw [List.getElem?_map]
  by_cases h : i < R.length
  · rw [List.getElem?_range h, List.getElem?_eq_getElem h]
    simp only [Option.map_some]
    rw [List.getD_eq_getElem?_getD, List.getElem?_eq_getElem h]
    rfl
  · rw [List.getElem?_eq_none (by rw [List.length_range]; omega), List.getElem?_eq_none (by omega)]
    rfl
theorem rowsOf_snoc (R : List (List (List Val))) (h : List (List Val)) : rowsOf (R ++ [h]) (R.length :: List.range R.length) = h ++ R.flatten := by
  rw [rowsOf_cons, ← rowsOf_range R]
  have e1 : (R ++ [h]).getD R.length [] = h := by rw [List.getD_eq_getElem?_getD, List.getElem?_append_right (Nat.le_refl _), Nat.sub_self]; rfl
  rw [e1]
  congr 1
  exact rowsOf_cong fun i hi => by
    have := List.mem_range.1 hi
    rw [List.getD_eq_getElem?_getD, List.getD_eq_getElem?_getD, List.getElem?_append_left this]
theorem runs_fit {t d k n : Nat} (hd : 3 ≤ d) (h1 : t * (d + 1) ≤ n + d) (h0 : d < n) (h2 : n ≤ d ^ (k + 1)) : t ≤ d ^ k ∧ 1 ≤ k := by
  refine ⟨?_, ?_⟩
  · rcases Nat.lt_or_ge (d ^ k) t with q | q
    · exfalso
      have h3 : (d ^ k + 1) * (d + 1) ≤ t * (d + 1) := Nat.mul_le_mul_right _ q
      have h4 : (d ^ k + 1) * (d + 1) = d ^ k * d + d ^ k + d + 1 := by rw [Nat.add_mul, Nat.mul_add]; omega
      rw [Nat.pow_succ] at h2
      omega
    · exact q
  · rcases Nat.eq_zero_or_pos k with q | q
    · subst q; simp at h2; omega
    · exact q
/-- What gather and layRest leave is to be merged. -/
theorem QI.start {rs hand : List (List Val)} {ks : List (Int × Bool)} {BU k : Nat} {Y0 Y Y1 : Yv} {ids ids1 : List Nat} (h : Gth rs rs.length hand ks BU Y0 Y ids) (hs : hand.Pairwise fun x y => ordG ks x y ≤ 0) (hBU : 4 ≤ BU) (hi0 : 0 < ids.length) (hk : rs.length ≤ (BU - 1) ^ (k + 1)) (hc : (hand = [] ∧ Y1 = Y ∧ ids1 = ids) ∨ (hand ≠ [] ∧ Laid hand Y Y1 ∧ ids1 = Y.runs.length :: ids)) :
    QI ks BU k (rs.map cleanR) (rs.length / 2 + 2) Y0 Y1 ids1 (List.replicate ids1.length 1) ∧ 0 < ids1.length := by
  have hcnt := h.count (Nat.le_refl _)
  have hids := h.ids
  have hil : ids.length = Y.runs.length := by rw [hids, List.length_range]
  obtain ⟨d, hd⟩ : ∃ d, BU = d + 1 := ⟨BU - 1, by omega⟩
  have hd1 : BU - 1 = d := by omega
  rw [hd1] at hk
  have hpe := h.perm
  rw [List.take_length] at hpe
  have hcl : ∀ x, x ∈ Y.runs.flatten ∨ x ∈ hand → cleanR x = x := fun x hx => by
    have : x ∈ rs.map cleanR := hpe.mem_iff.1 (List.mem_append.2 hx)
    obtain ⟨z, _, rfl⟩ := List.mem_map.1 this
    exact cleanR_clean z
  have hrun : ∀ i, i < Y.runs.length → ∃ r, Y.runs[i]? = some r ∧ r.length = BU ∧ r.Pairwise (fun x y => ordG ks x y ≤ 0) ∧ ∀ x ∈ r, cleanR x = x := fun i hi => by
    refine ⟨Y.runs[i], List.getElem?_eq_getElem hi, (h.runs _ (List.getElem_mem hi)).1, (h.runs _ (List.getElem_mem hi)).2, fun x hx => hcl x (.inl (List.mem_flatten.2 ⟨_, List.getElem_mem hi, hx⟩))⟩
  have hthr : ∀ i, i < Y.runs.length → Y.there[i]? = some true := fun i hi => by rw [h.there, List.getElem?_replicate, if_pos hi]
  have hfl := flat_all (fun r hr => (h.runs r hr).1)
  have h4 : Y.runs.length * 4 ≤ Y.runs.length * BU := Nat.mul_le_mul_left _ hBU
  have hdn : d < rs.length := by
    have : 1 * BU ≤ Y.runs.length * BU := Nat.mul_le_mul_right _ (by omega)
    omega
  have hhm := h.hm
  have hhd := h.held
  rcases hc with ⟨e1, e2, e3⟩ | ⟨e1, e2, e3⟩
  · rw [e1] at hcnt hhd hpe
    rw [e2, e3]
    rw [List.append_nil] at hpe
    simp only [List.length_nil] at hcnt hhd
    have hfit := runs_fit (t := Y.runs.length) (d := d) (k := k) (n := rs.length) (by omega) (by rw [← hd]; omega) hdn hk
    refine ⟨⟨h.rd, h.rf, h.cd, h.out, by simpa using hhd, by omega, h.most, by rw [hids]; exact List.nodup_range, fun i hi => ?_, fun i hi => ?_, fun i hi => ?_, ?_, ?_, by simp, by rw [h.puts]; omega, ?_, by omega⟩, by omega⟩
    · rw [hids] at hi
      have hi := List.mem_range.1 hi
      obtain ⟨r, r1, r2, _⟩ := hrun i hi
      refine ⟨hthr i hi, ?_⟩
      cases r with
      | nil => simp at r2; omega
      | cons x t => exact ⟨x, t, r1⟩
    · rw [hids] at hi
      obtain ⟨r, r1, r2, r3, r4⟩ := hrun i (List.mem_range.1 hi)
      rw [getD_of r1]; exact r3
    · rw [hids] at hi
      obtain ⟨r, r1, r2, r3, r4⟩ := hrun i (List.mem_range.1 hi)
      rw [getD_of r1]; exact r4
    · rw [hids, rowsOf_range]; exact hpe
    · rw [hd1, hil]
      exact Lab.start (by omega) hfit.2 hfit.1
    · rw [wsum_ones, h.puts]
      rw [hids, rowsOf_range]
      exact Int.le_refl _
  · have er : Y1.runs = Y.runs ++ [hand] := e2.runs
    have hhl : 0 < hand.length := by
      cases hand with
      | nil => exact absurd rfl e1
      | cons x t => simp
    have hfit := runs_fit (t := Y.runs.length + 1) (d := d) (k := k) (n := rs.length) (by omega) (by rw [Nat.add_mul, ← hd]; omega) hdn hk
    have hlen : ids1.length = Y.runs.length + 1 := by rw [e3, List.length_cons, hil]
    have hg : ∀ i, i < Y.runs.length → Y1.runs[i]? = Y.runs[i]? := fun i hi => by rw [er, List.getElem?_append_left hi]
    have hgl : Y1.runs[Y.runs.length]? = some hand := by rw [er, List.getElem?_append_right (Nat.le_refl _), Nat.sub_self]; rfl
    have hmem : ∀ i ∈ ids1, i < Y.runs.length ∨ i = Y.runs.length := fun i hi => by
      rw [e3, hids] at hi
      rcases List.mem_cons.1 hi with q | q
      · exact .inr q
      · exact .inl (List.mem_range.1 q)
    have hrows : rowsOf Y1.runs ids1 = hand ++ Y.runs.flatten := by rw [e3, hids, er]; exact rowsOf_snoc _ _
    refine ⟨⟨e2.rd, e2.rf.trans h.rf, e2.cd.trans h.cd, e2.out.trans h.out, by rw [e2.held, hhd]; omega, by rw [e2.most]; omega, by rw [e2.most]; exact h.most, ?_, fun i hi => ?_, fun i hi => ?_, fun i hi => ?_, ?_, ?_, by simp, by rw [e2.puts, h.puts]; omega, ?_, by rw [er, List.length_append, hlen]; simp only [List.length_cons, List.length_nil]; omega⟩, by omega⟩
    · rw [e3, hids, List.nodup_cons]
      exact ⟨fun q => by have := List.mem_range.1 q; omega, List.nodup_range⟩
    · rcases hmem i hi with q | q
      · obtain ⟨r, r1, r2, _⟩ := hrun i q
        refine ⟨by rw [e2.there, List.getElem?_append_left (by rw [h.there, List.length_replicate]; exact q)]; exact hthr i q, ?_⟩
        rw [hg i q]
        cases r with
        | nil => simp at r2; omega
        | cons x t => exact ⟨x, t, r1⟩
      · subst q
        refine ⟨?_, ?_⟩
        · rw [e2.there, List.getElem?_append_right (by rw [h.there, List.length_replicate]; exact Nat.le_refl _), h.there, List.length_replicate, Nat.sub_self]; rfl
        · rw [hgl]
          cases hand with
          | nil => exact absurd rfl e1
          | cons x t => exact ⟨x, t, rfl⟩
    · rcases hmem i hi with q | q
      · obtain ⟨r, r1, r2, r3, r4⟩ := hrun i q
        rw [getD_of ((hg i q).trans r1)]; exact r3
      · subst q; rw [getD_of hgl]; exact hs
    · rcases hmem i hi with q | q
      · obtain ⟨r, r1, r2, r3, r4⟩ := hrun i q
        rw [getD_of ((hg i q).trans r1)]; exact r4
      · subst q; rw [getD_of hgl]; exact fun x hx => hcl x (.inr hx)
    · rw [hrows]; exact List.perm_append_comm.trans hpe
    · rw [hd1, hlen]
      exact Lab.start (by omega) hfit.2 hfit.1
    · rw [wsum_ones, hrows, e2.puts, h.puts, List.length_append]
      omega
/-- What the last merge is asked. -/
theorem mrg_none {w : World} {b y m q B : Nat} {ks : List (Int × Bool)} {BU k : Nat} {A : List (List Val)} {C : Nat} {Y0 Y : Yv} {vS : Value} {ids labs : List Nat} {F : Nat → Prop} {g off cap : Nat} (hQ : QI ks BU k A C Y0 Y ids labs) (hT : OwnT w vS ids g off cap) (hyw : Yw w b y m Y none F) (hqx : Qx w q y B ((BU : Int), false) vS) (nq : ¬ F q) (ord : OrdF w B ks) (hgF : ¬ F g) (hc1 : ids.length + 1 ≤ BU) (hb2 : BU ≤ 65536) (hk : k ≤ 20) (hC : C ≤ 1048576) (hA : A.length ≤ 1048576) (hout : Y0.out.length + A.length ≤ 1048577) (hcd : Y0.cd ≠ 0) (hb1 : 4 ≤ BU) :
    MrgA w b y m q B ks (BU : Int) Y none none (some ⟨g, off, none⟩) ids vS BU F := by
  have hrl := hQ.rl
  have hpl := hQ.perm.length_eq
  have hp := hQ.puts hb1
  have hpk : A.length * k ≤ 1048576 * 20 := Nat.mul_le_mul hA hk
  have hI := hT.ids hgF ids.length
  rw [List.take_length] at hI
  exact ⟨hyw, hqx, nq, ord, hI, hQ.nd, hc1, hb2, by omega, hQ.held, hQ.m0, hQ.m1, hQ.rd, by rw [hQ.cd]; exact hcd, fun i hi => ⟨(hQ.th i hi).1, fun e => (by cases e), (hQ.th i hi).2⟩, hQ.srt, hQ.cln, fun i e => (by cases e), by omega, by rw [hQ.out]; omega, hQ.p0, by omega⟩
end Go.Proofs.YtcbenpodohjbiaaGreat
set_option linter.unusedSimpArgs false
set_option linter.unusedVariables false
set_option maxRecDepth 100000
namespace Go.Proofs.YtcbenpodohjbiaaGreat
open Go.RowKit Go.Sort

/-- All came out, in order. -/
structure SrtOk (ks : List (Int × Bool)) (k : Nat) (rs : List (List Val)) (Y0 Y' : Yv) : Prop where
  rd : Y'.rd = false
  held : Y'.held = 0
  out : ∃ O, Y'.out = Y0.out ++ O ∧ O.Perm (rs.map cleanR) ∧ O.Pairwise fun x y => ordG ks x y ≤ 0
  puts : Y'.puts ≤ ((rs.length * k : Nat) : Int)
/-- A call was refused. -/
structure SrtNo (ks : List (Int × Bool)) (rs : List (List Val)) (Y0 Y' : Yv) : Prop where
  rd : Y'.rd = true
  calls : Y'.calls = Y'.rf
  out : ∃ O R, Y'.out = Y0.out ++ O ∧ (O ++ R).Perm (rs.map cleanR) ∧ O.Pairwise (fun x y => ordG ks x y ≤ 0) ∧ ∀ x ∈ O, ∀ z ∈ R, ordG ks x z ≤ 0
/-- What sort answers. -/
structure SortQ (n0 : Nat) (w : World) (b y m : Nat) (ks : List (Int × Bool)) (BU k : Nat) (rs : List (List Val)) (Y0 : Yv) (c : Int) (Y' : Yv) (F' : Nat → Prop) (w' : World) : Prop where
  yw : Yw w' b y m Y' none F'
  lim : ∀ j, F' j → n0 ≤ j
  bel : Below n0 w w'
  rl : Y'.runs.length ≤ 1000000
  most : Y'.most ≤ BU
  rf : Y'.rf = Y0.rf
  is : (c = 0 ∧ SrtOk ks k rs Y0 Y') ∨ (c = Y0.cd ∧ Y0.cd ≠ 0 ∧ SrtNo ks rs Y0 Y')
def SortP (n0 : Nat) (w : World) (b y m : Nat) (ks : List (Int × Bool)) (BU k : Nat) (rs : List (List Val)) (Y0 : Yv) (e : Ending) (w' : World) : Prop := ∃ (c : Int) (Y' : Yv) (F' : Nat → Prop), e = .returned (.int .i64 c) ∧ SortQ n0 w b y m ks BU k rs Y0 c Y' F' w'

set_option maxHeartbeats 8000000 in
/-- sort (21). -/
theorem sort_any {F : Nat → Prop} {w0 : Bs} {n0 : Nat} {w : World} {b y m q B s : Nat} {ks : List (Int × Bool)} {BU k : Nat} {aR : Option Addr} {cR : Nat} {rs : List (List Val)} {Y0 : Yv} (hb1 : 4 ≤ BU) (hb2 : BU ≤ 65536) (hn : rs.length ≤ 1048571) (hrl : ∀ r ∈ rs, r.length ≤ 1048576) (hI : w0.Rows aR rs) (hF0 : ∀ j, F j → w0.No j) (hF : ∀ j, F j → n0 ≤ j) (hsF : ¬ F s) (hs0 : w0.No s) (hsn : n0 ≤ s) (hw0 : n0 ≤ w.heap.size) (hsy : s ≠ y)
    (hsafe : Y0.cd ≠ 0 ∨ rs.length < BU) (h0 : GI w0 w w b y m q B s ks BU aR cR rs Y0 F 0 (.slice none 0 0) [] Y0 [] F) (hout : Y0.out = []) (hk : rs.length ≤ (BU - 1) ^ (k + 1)) (hk2 : k ≤ 20) :
    Calls Tryz.prog 21 #[.pointer (some ⟨q, 0, none⟩), .iface 66 (.pointer (some ⟨s, 0, none⟩)), .iface 65 (.agg #[.pointer (some ⟨y, 0, none⟩), .iface 24 (.pointer (some ⟨b, 0, none⟩))])] w fun e w' => SortP n0 w b y m ks BU k rs Y0 e w' := by
  have HC := hide (gather_any hb1 hb2 (by omega) hrl hI hF0 hsF hs0 hsy hsafe h0)
  have HFs : Hid (∀ j, F j ∨ j = s → n0 ≤ j) := fun j e => by rcases e with e | e; exact hF j e; omega
  have HF := hide hF
  have HSF := hide hsafe
  have HK := hide hk
  have HOUT := hide hout
  clear h0 hI hrl hF hF0 hsafe hk hout
  go_enter Tryz.func21, Tryz.ntmps21
  go_upto_region 2 with (first | (go_at_call 38; refine (unhide HC).mono ?_; rintro _ w1 ⟨v1, c1, Y1, ids1, F1, rfl, nw1, mo1, sw1, ky1, hc1⟩; have HNW1 := hide nw1; have HSW1 := hide sw1; have HKY1 := hide ky1; have HC1 := hide hc1; clear nw1 mo1 sw1 ky1 hc1))
  have hb01 : Below n0 w w1 := (unhide HKY1).below (unhide HFs) hw0
  have hF1 : ∀ j, F1 j → n0 ≤ j := fun j e => by
    rcases unhide HNW1 j e with r | r
    · exact unhide HF j r
    · omega
  have HB01 := hide hb01
  have HF1 := hide hF1
  have s1 := hb01.size
  clear hb01 hF1
  rcases unhide HC1 with ⟨rfl, hand, p1, p2, p3, p4, p5⟩ | ⟨rfl, p1, p2, p3, p4, p5, p6, p7, p8⟩
  · have hcnt := p3.count (Nat.le_refl _)
    have hlt := p3.lt
    have hhd := p3.held
    obtain ⟨q1, q2, F0, vS, q3, q4, q5, q6, q7, q8, q9⟩ := unhide HSW1
    obtain ⟨aS, cS, eS⟩ := own_form q8
    have c4 := q7.c4
    rw [eS] at c4
    obtain ⟨N, hN⟩ : ∃ N, ids1.length = N := ⟨_, rfl⟩
    have hidl : ids1.length = Y1.runs.length := by rw [p3.ids, List.length_range]
    rw [hN] at c4
    have HN := hide hN
    by_cases hN0 : N = 0
    · have i0 : ((N : Int) == 0) = true := by simpa using hN0
      have i0' : (N : Int) = 0 := by omega
      have hr0 : Y1.runs = [] := List.eq_nil_of_length_eq_zero (by omega)
      have hpm := p3.perm
      rw [hr0, List.take_length, List.flatten_nil, List.nil_append] at hpm
      have hhl : hand.length = rs.length := by rw [hpm.length_eq, List.length_map]
      have hHd := handOn_any (S := none) q6 p1 (fun g e z => p2 g e (q3 g z)) (by omega) ⟨p3.rd, by omega, by omega, p3.hm, by rw [hr0]; simp, fun _ => by rw [p3.out, unhide HOUT]; simp; omega, fun i e => (by cases e)⟩ (p5.less (by omega))
      obtain ⟨av, cv, ev⟩ := p1.form
      subst ev
      change Calls Tryz.prog 39 #[.slice av hand.length cv, .iface 65 (.agg #[.pointer (some ⟨y, 0, none⟩), .iface 24 (.pointer (some ⟨b, 0, none⟩))])] w1 _ at hHd
      have HHD := hide hHd
      have HPM := hide hpm
      have HP3 := hide p3
      have HP4 := hide p4
      have HR0 := hide hr0
      have HFF : Hid (∀ j, F0 j → n0 ≤ j) := fun j e => unhide HF1 j (q3 j e)
      clear hHd hpm p1 p2 p3 p4 p5 hr0 q3 q5 q6 q7 q8 q9 HC1 hcnt hlt hhd hidl eS hN hhl hN0 i0'
      go_wp2_with (first | (go_at_call 39; refine (unhide HHD).mono ?_; rintro _ w2 ⟨Y2, c2, rfl, hY2, hc2⟩; have HY2 := hide hY2; have HC2 := hide hc2; clear hY2 hc2))
      go_ret
      obtain ⟨F2, n2, m2, y2, k2⟩ := unhide HY2
      have hb12 : Below n0 w1 w2 := k2.below (unhide HFF) (by omega)
      refine ⟨c2, Y2, F2, rfl, y2, fun j e => ?_, (unhide HB01).trans hb12, ?_, ?_, ?_, ?_⟩
      · rcases n2 j e with r | r
        · exact unhide HFF j r
        · omega
      · rcases unhide HC2 with ⟨_, p, _⟩ | ⟨_, _, _, _, p, _⟩
        · rw [(p.o rfl).2.1, unhide HR0]; simp
        · rw [(p.o rfl).2.1, unhide HR0]; simp
      · rcases unhide HC2 with ⟨_, p, _⟩ | ⟨_, _, _, _, p, _⟩
        · rw [p.most]; exact (unhide HP3).most
        · rw [p.most]; exact (unhide HP3).most
      · rcases unhide HC2 with ⟨_, p, _⟩ | ⟨_, _, _, _, p, _⟩
        · rw [p.rf]; exact (unhide HP3).rf
        · rw [p.rf]; exact (unhide HP3).rf
      · rcases unhide HC2 with ⟨rfl, p, p'⟩ | ⟨rfl, p0, kk, pk, p, p1', p2'⟩
        · left
          obtain ⟨o1, o2, o3⟩ := p.o rfl
          refine ⟨rfl, p'.rd, by rw [p.held, (unhide HP3).held]; omega, ⟨hand, by rw [o1, (unhide HP3).out], unhide HPM, unhide HP4⟩, ?_⟩
          rw [o3, (unhide HP3).puts, unhide HR0]
          simp
          exact Int.natCast_nonneg _
        · right
          obtain ⟨o1, o2, o3⟩ := p.o rfl
          have hsp := unhide HP4
          rw [← List.take_append_drop kk hand, List.pairwise_append] at hsp
          refine ⟨(unhide HP3).cd, by rw [← (unhide HP3).cd]; exact p0, p1', p2', hand.take kk, hand.drop kk, by rw [o1, (unhide HP3).out], by rw [List.take_append_drop]; exact unhide HPM, hsp.1, fun x hx z hz => hsp.2.2 x hx z hz⟩
    · have i0' : ¬ (N : Int) = 0 := by omega
      have i0 : ((N : Int) == 0) = false := by simpa using i0'
      have hcd : Y0.cd ≠ 0 := by
        rcases unhide HSF with r | r
        · exact r
        · exfalso
          have : 1 * BU ≤ Y1.runs.length * BU := Nat.mul_le_mul_right _ (by omega)
          omega
      have h4 : Y1.runs.length * 4 ≤ Y1.runs.length * BU := Nat.mul_le_mul_left _ hb1
      have hfl := flat_all (fun r hr => (p3.runs r hr).1)
      have hLR := layRest_any (unhide HSW1) p1 p2 (by omega) p3.rd (by rw [p3.cd]; exact hcd) (by omega) (by omega) p3.hm (by omega) (by omega) (by omega) (by rw [p3.puts]; omega) (by rw [p3.puts]; omega)
      obtain ⟨av, cv, ev⟩ := p1.form
      subst ev
      have HLR := hide hLR
      have HP3 := hide p3
      have HP4 := hide p4
      have hcd' : (Y0.cd != 0) = true := by simpa using hcd
      have hcd1 : (Y1.cd != 0) = true := by rw [p3.cd]; exact hcd'
      have HIDL : Hid (0 < ids1.length) := by show _ < _; omega
      have HRL : Hid (Y1.runs.length ≤ 500000) := by show _ ≤ _; omega
      clear hLR p1 p2 p3 p4 p5 q3 q5 q6 q7 q8 q9 HC1 hcnt hlt hhd hidl eS hN hfl h4
      go_upto_region 7 with (first | (go_at_call 40; refine (unhide HLR).mono ?_; rintro _ w2 ⟨Y2, ids2, c2, rfl, hS2, hc2⟩; have HS2 := hide hS2; have HC2 := hide hc2; clear hS2 hc2))
      obtain ⟨F2, nw2, mo2, sw2, ky2⟩ := unhide HS2
      have hb12 : Below n0 w1 w2 := ky2.below (unhide HF1) (by omega)
      have hF2 : ∀ j, F2 j → n0 ≤ j := fun j e => by
        rcases nw2 j e with r | r
        · exact unhide HF1 j r
        · omega
      have s2 := hb12.size
      have HB12 := hide hb12
      have HF2 := hide hF2
      have HSW2 := hide sw2
      clear hb12 hF2 nw2 mo2 ky2
      rcases unhide HC2 with ⟨rfl, p1⟩ | ⟨rfl, p1⟩
      · obtain ⟨hQI, hil2⟩ := QI.start (unhide HP3) (unhide HP4) hb1 (unhide HIDL) (unhide HK) p1
        obtain ⟨q1, q2, F0, vS, q3, q4, q5, q6, q7, q8, q9⟩ := sw2
        obtain ⟨g, cap, hT⟩ := OwnN.t q8 hil2
        have hSI : SI w2 w2 b y m q B ks BU k (rs.map cleanR) (rs.length / 2 + 2) Y0 (fun j => n0 ≤ j) Y2 vS ids2 (List.replicate ids2.length 1) F0 := ⟨⟨q6, q7, q4, q9, g, 0, cap, hT, (q5 g (by rw [hT.e]; rfl)).2⟩, hQI, fun j e => .inl (unhide HF2 j (q3 j e)), Ky.refl _ _, fun j e => .inl (unhide HF2 j (q5 j e).1)⟩
        have hMS := mergeSome_any hSI (unhide HF2 q q2) hb1 hb2 hk2 (by omega) (by rw [List.length_map]; omega) (by rw [unhide HOUT, List.length_map]; simp; omega) hcd
        have HMS := hide hMS
        clear hMS hSI hT q1 q2 q3 q4 q5 q6 q7 q8 q9 hQI hil2 p1 HC2
        go_upto_region 10 with (first | (go_at_call 41; refine (unhide HMS).mono ?_; rintro _ w3 ⟨c3, Y3, F3, rfl, hc3⟩; have HC3 := hide hc3; clear hc3))
        rcases unhide HC3 with ⟨rfl, vS3, ids3, labs3, hSI, hi3⟩ | ⟨rfl, hRf, y3, nw3, ky3⟩
        · obtain ⟨g, off, cap, hT, hgF⟩ := hSI.ss.own
          have hMg := merge_none (c := cap) (mrg_none hSI.qi hT hSI.ss.yw hSI.ss.qx hSI.ss.nq hSI.ss.ord hgF hi3 hb2 hk2 (by omega) (by rw [List.length_map]; omega) (by rw [unhide HOUT, List.length_map]; simp; omega) hcd hb1)
          have d4 := hSI.ss.qx.c4
          rw [hT.e] at d4
          have HMG := hide hMg
          have HSI := hide hSI
          obtain ⟨N3, hN3⟩ : ∃ N3, ids3.length = N3 := ⟨_, rfl⟩
          rw [hN3] at d4 HMG
          have hF3 : ∀ j, F3 j → n0 ≤ j := fun j e => by
            rcases hSI.nw j e with r | r
            · exact r
            · omega
          have hb23 : Below n0 w2 w3 := hSI.ky.below (fun _ e => e) (by omega)
          have HF3 := hide hF3
          have HB23 := hide hb23
          have s3 := hb23.size
          clear hMg hSI hT hgF hN3 hF3 hb23 HC3
          go_wp2_with (first | (go_at_call 42; refine (unhide HMG).mono ?_; rintro _ w4 ⟨Y4, c4, rfl, hY4, hc4⟩; have HY4 := hide hY4; have HC4 := hide hc4; clear hY4 hc4))
          go_ret
          obtain ⟨F4, n4, m4, y4, k4⟩ := unhide HY4
          have hb34 : Below n0 w3 w4 := k4.below (unhide HF3) (by omega)
          have qi := (unhide HSI).qi
          have hpu := qi.puts hb1
          rw [List.length_map] at hpu
          have hrl3 := qi.rl
          refine ⟨c4, Y4, F4, rfl, y4, fun j e => ?_, (((unhide HB01).trans (unhide HB12)).trans (unhide HB23)).trans hb34, ?_, ?_, ?_, ?_⟩
          · rcases n4 j e with r | r
            · exact unhide HF3 j r
            · omega
          · rcases unhide HC4 with ⟨_, O, p⟩ | ⟨_, p⟩
            · rw [p.len]; omega
            · rw [p.runs]; omega
          · rcases unhide HC4 with ⟨_, O, p⟩ | ⟨_, p⟩
            · exact p.most
            · exact p.most
          · rcases unhide HC4 with ⟨_, O, p⟩ | ⟨_, p⟩
            · exact p.rf.trans qi.rf
            · exact p.rf.trans qi.rf
          · rcases unhide HC4 with ⟨rfl, O, p⟩ | ⟨rfl, p⟩
            · left
              obtain ⟨o1, o2⟩ := p.done
              obtain ⟨o3, o4⟩ := p.o rfl
              exact ⟨rfl, p.rd, by have := p.held; simpa using this, ⟨O, by rw [o3, qi.out], o1.trans qi.perm, o2⟩, by rw [o4]; exact hpu⟩
            · right
              obtain ⟨O, R, o1, o2, o3, o4, _⟩ := p.out
              exact ⟨qi.cd, hcd, p.rd, p.calls, O, R, by rw [o1, qi.out], o2.trans qi.perm, o3, o4⟩
        · have HRf := hide hRf
          have HY3 := hide y3
          have HNW3 := hide nw3
          have HKY3 := hide ky3
          clear hRf y3 nw3 ky3 HC3
          go_wp2
          go_ret
          have hb23 : Below n0 w2 w3 := (unhide HKY3).below (fun _ e => e) (by omega)
          have r := unhide HRf
          refine ⟨Y0.cd, Y3, F3, rfl, unhide HY3, fun j e => ?_, ((unhide HB01).trans (unhide HB12)).trans hb23, by have := r.runs; omega, r.most, r.rf, .inr ⟨rfl, hcd, r.rd, r.calls, [], rs.map cleanR, by rw [r.out, List.append_nil], by simp, by simp, by simp⟩⟩
          rcases unhide HNW3 j e with q | q
          · exact q
          · omega
      · have HP1 := hide p1
        clear p1 HC2 sw2
        go_wp2
        go_ret
        have r := unhide HP1
        have p := unhide HP3
        obtain ⟨q1, q2, F0, vS, q3, q4, q5, q6, q7, q8, q9⟩ := unhide HSW2
        refine ⟨Y1.cd, Y2, F0, rfl, q6, fun j e => unhide HF2 j (q3 j e), (unhide HB01).trans (unhide HB12), by have := r.runs; have := unhide HRL; omega, by rw [r.most]; exact p.most, r.rf.trans p.rf, .inr ⟨p.cd, hcd, r.rd, r.calls, [], rs.map cleanR, by rw [r.out, p.out, List.append_nil], by simp, by simp, by simp⟩⟩
  · have hcd' : (Y0.cd != 0) = true := by simpa using p1
    have HP := hide (And.intro p1 (And.intro p2 (And.intro p3 (And.intro p4 (And.intro p5 (And.intro p6 (And.intro p7 p8)))))))
    clear p1 p2 p3 p4 p5 p6 p7 p8 HC1
    go_wp2
    go_ret
    obtain ⟨p1, p2, p3, p4, p5, p6, p7, p8⟩ := unhide HP
    obtain ⟨q1, q2, F0, vS, q3, q4, q5, q6, q7, q8, q9⟩ := unhide HSW1
    exact ⟨Y0.cd, Y1, F0, rfl, q6, fun j e => unhide HF1 j (q3 j e), unhide HB01, by omega, p7, p4, .inr ⟨rfl, p1, p2, p3, [], rs.map cleanR, by rw [p6, List.append_nil], by simp, by simp, by simp⟩⟩
end Go.Proofs.YtcbenpodohjbiaaGreat

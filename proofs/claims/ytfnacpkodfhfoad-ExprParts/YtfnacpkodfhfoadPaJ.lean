import Derived.Test.YtfnacpkodfhfoadPaI
import Derived.Test.YtfnacpkodfhfoadEsOpen
set_option linter.unusedSimpArgs false
set_option linter.unusedVariables false
namespace Go.Proofs.Ytfnacpkodfhfoad
open Go.RowKit Go.Sort

theorem parts_few (e : Ex) : (partsE e).length ≤ 400 := by
  by_cases hb : builtE e = true
  · exact parts_400 hb
  · have hb : builtE e = false := by simpa using hb
    have hp : partsE e = [copyT e] := by
      rw [partsE_eq, if_neg]
      simp [hb]
    rw [hp]
    show 1 ≤ 400
    omega
theorem all_take {α : Type} (p : α → Bool) : ∀ (l : List α) (k : Nat) (x : α), l[k]? = some x → (l.take (k + 1)).all p = ((l.take k).all p && p x)
  | [], k, x, h => by simp at h
  | y :: l, 0, x, h => by
    simp at h
    subst h
    simp
  | y :: l, k + 1, x, h => by
    rw [List.take_succ_cons, List.take_succ_cons, List.all_cons, List.all_cons, all_take p l k x (by simpa using h), Bool.and_assoc]
set_option maxHeartbeats 1000000 in
set_option maxRecDepth 100000 in
theorem law_ep (e : Ex) (hf : e.fin) (row : List Val) (hv : ∀ x ∈ row, VOk x) (hl : row.length ≤ 4398046511104) (a aR : Option Addr) (c cR : Nat) (w : World) (ha : Ex.all w a e.args) (hr : RowAt w aR row) :
    Calls Try.prog 4 #[e.val a c, .slice aR row.length cR] w fun r w' => r = .returned (.bool true) ∧ Below w.heap.size w w' := by
  have HPA := hide (fun (W : World) (hW : Below w.heap.size w W) => parts_any e hf a c W (Ex.all_later _ ha hW))
  have HEV := hide (fun (W : World) (hW : Below w.heap.size w W) => evals_any e hf row hv (by omega) a aR c cR W (Ex.all_later _ ha hW) (hr.later hW))
  have HPF := hide (parts_fin e.size e (Nat.le_refl _) hf)
  have HPT := hide (parts_true row e)
  have HPP := hide (parts_pos e)
  have HR := hide (fun (W : World) (hW : Below w.heap.size w W) => hr.later hW)
  have HV := hide hv
  have H6 : Hid (Six (w.alloc (.cells #[.int .i64 e.op, .int .i64 e.n, .int .i64 e.v.k, .int .i64 e.v.n, .string e.v.s, .slice a e.args.length c] 26)) w.heap.size e a c) := Six.new w e a c
  have HB0 := hide (below_alloc (Below.refl _ w) (.cells #[.int .i64 e.op, .int .i64 e.n, .int .i64 e.v.k, .int .i64 e.v.n, .string e.v.s, .slice a e.args.length c] 26))
  rw [Ex.val_open] at HPA HEV ⊢
  clear ha hr hv
  go_enter Try.func4, Try.ntmps4
  go_wp2_with (go_at_call 9; refine (unhide HPA _ (unhide HB0)).mono ?_; rintro r w1 ⟨g, cap, L, rfl, hO, hM, hK, hb1⟩)
  have hll : L.length = (partsE e).length := by rw [← hM, List.length_map]
  have hlf : L.length ≤ 400 := by rw [hll]; exact parts_few e
  have hlp : 0 < L.length := by rw [hll]; exact unhide HPP
  have HQ : Hid (∀ (k : Nat) (q : Nd), L[k]? = some q → (partsE e)[k]? = some q.1) := fun k q hq => by rw [← hM, List.getElem?_map, hq]; rfl
  have HLL := hide hll
  have HO := hide hO
  have HK := hide hK
  have HB1 := hide (below_step (unhide HB0) hb1)
  have HBP := hide hb1
  have HBX : Hid (Below w.heap.size w (w.alloc (.cells #[.int .i64 e.op, .int .i64 e.n, .int .i64 e.v.k, .int .i64 e.v.n, .string e.v.s, .slice a e.args.length c] 26))) := unhide HB0
  have HS1 := hide ((unhide H6).later hb1)
  have HTR := hide (true_any (evalB row e))
  generalize evalB row e = ev at *
  clear hll hO hM hK hb1 HPP
  go_loopw [5, 13] (fun s5 i wr => ∃ (k : Nat) (bb : Bool), k ≤ L.length ∧ i = .int .i64 (k : Int) ∧ s5 = .bool bb ∧ Hid (bb = ((partsE e).take k).all (fun p => trueB (evalB row p))) ∧ Hid (Below w1.heap.size w1 wr)) (fun _ i _ => L.length - (intOf i).toNat)
  case atStart => exact ⟨0, true, Nat.zero_le _, rfl, rfl, rfl, Below.refl _ _⟩
  case round =>
    obtain ⟨k, bb, hk, rfl, rfl, HBB, HI⟩ := hrel
    by_cases hlt : k < L.length
    · have h9 : (k : Int) < (L.length : Int) := by omega
      obtain ⟨q, hq⟩ : ∃ q, L[k]? = some q := ⟨_, List.getElem?_eq_getElem hlt⟩
      have hpq := unhide HQ k q hq
      have HTK := hide (all_take (fun p => trueB (evalB row p)) _ _ _ hpq)
      obtain ⟨⟨d0, d1, d2, d3, d4, d5⟩, _⟩ := ((unhide HO).later (unhide HI)).facts hq
      have hbw := below_alloc (unhide HI) (.cells (sh q).toArray 26)
      have HE := hide (evals_any q.1 (unhide HPF q.1 (List.mem_of_getElem? hpq)) row (unhide HV) (by omega) q.2.1 aR q.2.2 cR (wr.alloc (.cells (sh q).toArray 26)) (unhide HK q (List.mem_of_getElem? hq) _ (below_step (unhide HBP) hbw) (Kept.of_below _ _ hbw)) (unhide HR _ (below_step (unhide HB1) hbw)))
      have HT := hide (true_any (evalB row q.1))
      have HBW := hide hbw
      unfold sh at HE HBW
      obtain ⟨qe, qa, qc⟩ := q
      simp only at HE HBW HT d0 d1 d2 d3 d4 d5 HTK
      rw [Ex.val_open] at HE
      rw [← unhide HBB] at HTK
      generalize evalB row qe = qv at *
      rw [Val.open_] at HT
      clear hpq hbw hq HI HBB HQ HPF HPA HEV HTR H6
      cases bb with
      | true =>
        go_wp2_with (first
          | (go_at_call 8; refine (unhide HE).mono ?_; rintro r w2 ⟨rfl, hb2⟩; rw [Val.open_])
          | (go_at_call 7; refine (unhide HT _).mono ?_; rintro r w3 ⟨rfl, hb3⟩))
        refine ⟨⟨k + 1, trueB qv, by omega, by go_num, rfl, ?_, below_step (below_step (unhide HBW) hb2) hb3⟩, by simp [intOf]; omega⟩
        show _ = _
        rw [unhide HTK]
        rfl
      | false =>
        go_wp2
        refine ⟨⟨k + 1, false, by omega, by go_num, rfl, ?_, unhide HBW⟩, by simp [intOf]; omega⟩
        show _ = _
        rw [unhide HTK]
        rfl
    · have h9 : ¬ (k : Int) < (L.length : Int) := by omega
      obtain rfl : k = L.length := by omega
      have hbb : bb = trueB ev := by
        have h1 := unhide HBB
        rw [unhide HLL, List.take_length] at h1
        rw [h1]
        exact unhide HPT
      subst hbb
      have HS2 := hide ((unhide HS1).later (unhide HI))
      obtain ⟨s0, s1, s2, s3, s4, s5⟩ := unhide HS2
      have HE2 := hide (fun (W : World) (hW : Below wr.heap.size wr W) => unhide HEV W (below_step (below_step (unhide HB1) (unhide HI)) hW))
      have HBI := hide (below_step (unhide HB1) (unhide HI))
      rw [Val.open_] at HTR
      generalize trueB ev = t at *
      clear HEV HPA HPF HPT HBB HQ HO HK HI
      have hp0 : (0 : Int) < (L.length : Int) := by omega
      by_cases h1 : (1 : Int) < (L.length : Int)
      · go_wp2_with (first
          | (go_at_call 8; refine (unhide HE2 _ (Below.refl _ _)).mono ?_; rintro r w2 ⟨rfl, hb2⟩; rw [Val.open_]; obtain ⟨s0, s1, s2, s3, s4, s5⟩ := (unhide HS2).later hb2)
          | (go_at_call 7; refine (unhide HTR _).mono ?_; rintro r w3 ⟨rfl, hb3⟩))
        go_ret
        exact ⟨rfl, below_step (below_step (unhide HBI) hb2) hb3⟩
      · by_cases h19 : e.op = 19
        · clear HS1 H6 HB0 HBX
          rw [h19] at HE2 s0 ⊢
          go_wp2_with (first
          | (go_at_call 8; refine (unhide HE2 _ (below_step hb2 hb3)).mono ?_; rintro r w4 ⟨rfl, hb4⟩; rw [Val.open_])
          | (go_at_call 7; refine (unhide HTR w4).mono ?_; rintro r w5 ⟨rfl, hb5⟩)
          | (go_at_call 8; refine (unhide HE2 _ (Below.refl _ _)).mono ?_; rintro r w2 ⟨rfl, hb2⟩; rw [Val.open_])
          | (go_at_call 7; refine (unhide HTR w2).mono ?_; rintro r w3 ⟨rfl, hb3⟩; obtain ⟨s0, s1, s2, s3, s4, s5⟩ := (unhide HS2).later (below_step hb2 hb3)))
          go_ret
          exact ⟨rfl, below_step (below_step (below_step (below_step (unhide HBI) hb2) hb3) hb4) hb5⟩
        · go_wp2_with (first
            | (go_at_call 8; refine (unhide HE2 _ (Below.refl _ _)).mono ?_; rintro r w2 ⟨rfl, hb2⟩; rw [Val.open_])
            | (go_at_call 7; refine (unhide HTR _).mono ?_; rintro r w3 ⟨rfl, hb3⟩; obtain ⟨s0, s1, s2, s3, s4, s5⟩ := (unhide HS2).later (below_step hb2 hb3)))
          go_ret
          exact ⟨rfl, below_step (below_step (unhide HBI) hb2) hb3⟩
end Go.Proofs.Ytfnacpkodfhfoad

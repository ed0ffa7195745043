import Derived.Test.YtmgnndbcbalafaaMdP
set_option linter.unusedSimpArgs false
set_option linter.unusedVariables false
namespace Go.Proofs.Ytmgnndbcbalafaa
open Go.RowKit Go.Sort

theorem cn_take {xs : List Int} {k : Nat} {y : Int} (x : Int) (h : xs[k]? = some y) : cn x (xs.take (k + 1)) = cn x (xs.take k) + if y ≤ x then 1 else 0 := by
  rw [List.take_add_one, h, cn_append]
  simp only [Option.toList_some, cn_cons, cn_nil, Nat.add_zero]

/-- What ranks must be. -/
structure Told (c : Nat) (xs : List Int) (x y : Int) (LO HI LO2 HI2 SZ : Nat) : Prop where
  a1 : LO ≤ cn x xs
  a2 : cn x xs ≤ HI
  a3 : HI - LO ≤ bitsN (xs.length / c) * xs.length / c
  a4 : HI ≤ xs.length
  a5 : x = 9223372036854775807 → LO = xs.length ∧ HI = xs.length
  a6 : SZ ≤ c * (bitsN (xs.length / c) + 1)
  a7 : x ≤ y → LO ≤ LO2 ∧ HI ≤ HI2

theorem told {c N sl : Nat} {lv : Nat → List Int} {h : Nat → Nat} {xs : List Int} (g : Good c N lv h sl xs) (hc : 0 < c) (hs : ∀ j, (lv j).length < c) (hx : ∀ a ∈ xs, a ≤ 9223372036854775807) (x y : Int) :
    Told c xs x y (sg (fun j => cn x (lv j) * 2 ^ j) N) (min (sg (fun j => cn x (lv j) * 2 ^ j) N + sl) xs.length) (sg (fun j => cn y (lv j) * 2 ^ j) N) (min (sg (fun j => cn y (lv j) * 2 ^ j) N + sl) xs.length) (sg (fun j => (lv j).length) N) := by
  have h1 := g.low x
  have h2 := cn_le x xs
  have h3 := g.near hc
  refine ⟨h1.1, by omega, by omega, by omega, fun e => ?_, g.size hc hs, fun e => ?_⟩
  · have := g.most (x := x) (fun a ha => by rw [e]; exact hx a ha)
    omega
  · have := low_up lv e N
    omega

set_option maxHeartbeats 2000000 in
set_option maxRecDepth 100000 in
theorem ranked_any (w : World) (b c : Nat) (S : Value) (Ls : List Value) (xs : List Int) (x y : Int) (a : Option Addr) (ca : Nat) (hA : SkA w b c S Ls xs) (hm : NumAt w a xs) (hc2 : 2 ≤ c) (hc3 : c ≤ 1024) (hl : xs.length ≤ 100000) (hx : ∀ z ∈ xs, z ≤ 9223372036854775807) :
    Calls Try.prog 8 #[.pointer (some ⟨b, 0, none⟩), .slice a xs.length ca, .int .i64 c, .int .i64 x, .int .i64 y] w fun e w' => e = .returned (.bool true) ∧ Below w.heap.size w w' := by
  obtain ⟨lv, h, sl, hM, hG, hS⟩ := hA
  obtain ⟨n1, s1⟩ := hG.bounds hc2 hl
  have hT := told hG (by omega) hS hx x y
  obtain ⟨LO, eLO⟩ : ∃ v, sg (fun j => cn x (lv j) * 2 ^ j) Ls.length = v := ⟨_, rfl⟩
  obtain ⟨LO2, eLO2⟩ : ∃ v, sg (fun j => cn y (lv j) * 2 ^ j) Ls.length = v := ⟨_, rfl⟩
  obtain ⟨SZ, eSZ⟩ : ∃ v, sg (fun j => (lv j).length) Ls.length = v := ⟨_, rfl⟩
  rw [eLO, eLO2, eSZ] at hT
  obtain ⟨HI, eHI⟩ : ∃ v, min (LO + sl) xs.length = v := ⟨_, rfl⟩
  obtain ⟨HI2, eHI2⟩ : ∃ v, min (LO2 + sl) xs.length = v := ⟨_, rfl⟩
  rw [eHI, eHI2] at hT
  have K14 : Hid (∀ W, Below w.heap.size w W → Calls Try.prog 14 #[.pointer (some ⟨b, 0, none⟩), .int .i64 x] W fun e w' => e = .returned (.tuple #[.int .i64 (LO : Int), .int .i64 (HI : Int)]) ∧ Below W.heap.size W w') := fun W hW => by
    have := rank_any W b c xs.length sl S Ls lv h xs x (hM.later hW) hG rfl hl hc2
    rw [eLO, eHI] at this; exact this
  have K14' : Hid (∀ W, Below w.heap.size w W → Calls Try.prog 14 #[.pointer (some ⟨b, 0, none⟩), .int .i64 y] W fun e w' => e = .returned (.tuple #[.int .i64 (LO2 : Int), .int .i64 (HI2 : Int)]) ∧ Below W.heap.size W w') := fun W hW => by
    have := rank_any W b c xs.length sl S Ls lv h xs y (hM.later hW) hG rfl hl hc2
    rw [eLO2, eHI2] at this; exact this
  have K16 : Hid (∀ W, Below w.heap.size w W → Calls Try.prog 16 #[.pointer (some ⟨b, 0, none⟩)] W fun e w' => e = .returned (.int .i64 (SZ : Int)) ∧ w' = W) := fun W hW => by
    have := size_any W b c xs.length sl S Ls lv (hM.later hW) n1 (fun j => by have := hG.level j; omega)
    rw [eSZ] at this; exact this
  have K15 : Hid (∀ W, Below w.heap.size w W → Calls Try.prog 15 #[.pointer (some ⟨b, 0, none⟩)] W fun e w' => e = .returned (.int .i64 (xs.length : Int)) ∧ w' = W) := fun W hW => total_any W b c S Ls xs ⟨lv, h, sl, hM.later hW, hG, hS⟩
  have hdv : xs.length / c ≤ 100000 := Nat.le_trans (Nat.div_le_self _ _) hl
  have K13 := hide (fun W => bits_any (xs.length / c) (by omega) W)
  obtain ⟨D, hD⟩ : ∃ D, xs.length / c = D := ⟨_, rfl⟩
  obtain ⟨L, hL⟩ : ∃ L, bitsN D = L := ⟨_, rfl⟩
  have hL20 : L ≤ 17 := by rw [← hL, ← hD]; exact bits_le 17 _ (by omega)
  have hTa := hT.a3
  have hTb := hT.a6
  rw [hD, hL] at hTa hTb
  rw [hD, hL] at K13
  obtain ⟨n, hn⟩ : ∃ n, xs.length = n := ⟨_, rfl⟩
  obtain ⟨P, hP⟩ : ∃ P, L * n = P := ⟨_, rfl⟩
  have hPb : P ≤ 1700000 := by rw [← hP]; have := Nat.mul_le_mul hL20 (show n ≤ 100000 by omega); omega
  obtain ⟨Qn, hQ⟩ : ∃ Qn, P / c = Qn := ⟨_, rfl⟩
  rw [hn, hP, hQ] at hTa
  have HT := hide hT
  have HN := hide hn
  have HNUM := hide hm
  clear hT hM hG hS hm eLO eLO2 eSZ eHI eHI2
  have q1 : (n : Int).tdiv (c : Int) = (D : Int) := by rw [Int.tdiv_eq_ediv_of_nonneg (by omega), ← hD, hn]; rfl
  have q2 : (P : Int).tdiv (c : Int) = (Qn : Int) := by rw [Int.tdiv_eq_ediv_of_nonneg (by omega), ← hQ]; rfl
  have q1' : (n : Int) / (c : Int) = (D : Int) := by rw [← hD, hn]; rfl
  have q2' : (P : Int) / (c : Int) = (Qn : Int) := by rw [← hQ]; rfl
  have q3 : (L : Int) * (n : Int) = (P : Int) := by rw [← hP]; simp
  have q4 : IntKind.i64.wrap (P : Int) = (P : Int) := by rw [IntKind.wrap_i64]; omega
  have hcz : ((c : Int) == 0) = false := by simp; omega
  obtain ⟨T, hTT⟩ : ∃ T, cn x xs = T := ⟨_, rfl⟩
  have t1 := (unhide HT).a1
  have t2 := (unhide HT).a2
  have t4 := (unhide HT).a4
  rw [hTT] at t1 t2
  rw [hn] at t4
  have t5 := (unhide HT).a5
  have t7 := (unhide HT).a7
  rw [hn] at t5
  have HTT := hide hTT
  obtain ⟨M, hM⟩ : ∃ M, c * (L + 1) = M := ⟨_, rfl⟩
  rw [hM] at hTb
  have hMb : M ≤ 20000 := by rw [← hM]; have := Nat.mul_le_mul hc3 (show L + 1 ≤ 18 by omega); omega
  have q5 : (c : Int) * ((L : Int) + 1) = (M : Int) := by rw [← hM]; simp
  have hnl : n ≤ 100000 := by omega
  have hDb : (D : Int) ≤ 100000 := by rw [← hD]; omega
  have hQb : (Qn : Int) ≤ 1700000 := by have := Nat.div_le_self P c; omega
  have hPb' : (P : Int) ≤ 1700000 := by omega
  have hMb' : (M : Int) ≤ 20000 := by omega
  have hSb : (SZ : Int) ≤ 20000 := by omega
  have u1 : ¬ ((T : Int) < (LO : Int)) := by omega
  have u2 : ¬ ((HI : Int) < (T : Int)) := by omega
  have u3 : ¬ ((Qn : Int) < (HI : Int) - (LO : Int)) := by omega
  have u4 : ¬ ((n : Int) < (HI : Int)) := by omega
  have u5 : ¬ ((M : Int) < (SZ : Int)) := by omega
  have u6 : (HI : Int) ≤ 100000 := by omega
  have u7 : (LO : Int) ≤ 100000 := by omega
  have u8 : (L : Int) ≤ 17 := by omega
  have u9 : (n : Int) ≤ 100000 := by omega
  rw [hn] at K15 ⊢
  clear hTT t1 t2 t4 hTa hTb hMb hM hP hPb hQ hD hL hL20 hdv hn hl HT hnl
  go_enter Try.func8, Try.ntmps8
  go_wp2_with fail
  go_loopw [13, 12] (fun s13 s12 wr => ∃ i k : Nat, i ≤ n ∧ k ≤ i ∧ s13 = .int .i64 (i : Int) ∧ s12 = .int .i64 (k : Int) ∧ Hid (cn x (xs.take i) = k) ∧ wr = w) (fun s _ _ => n - (intOf s).toNat)
  case atStart => exact ⟨0, 0, by omega, by omega, rfl, rfl, by show _ = _; simp, rfl⟩
  case round =>
    obtain ⟨i, k, hi, hk, rfl, rfl, HK, rfl⟩ := hrel
    by_cases hlt : i < n
    · have i1 : (i : Int) < (n : Int) := by omega
      obtain ⟨z, hz⟩ : ∃ z, xs[i]? = some z := ⟨_, List.getElem?_eq_getElem (by rw [unhide HN]; exact hlt)⟩
      rcases unhide HNUM with e | ⟨g, off, rfl, hcel⟩
      · rw [e] at hz; simp at hz
      have c0 := hcel i z hz
      have hct := cn_take x hz
      rw [unhide HK] at hct
      by_cases hzx : z ≤ x
      · rw [if_pos hzx] at hct
        have HCT := hide hct
        clear hct hz hcel
        go_wp2_with fail
        go_roundw
        case rel => exact ⟨i + 1, k + 1, by omega, by omega, by go_num, by go_num, HCT, by first | rfl | trivial⟩
        case measure => simp [intOf]; omega
      · rw [if_neg hzx, Nat.add_zero] at hct
        have HCT := hide hct
        clear hct hz hcel
        go_wp2_with fail
        go_roundw
        case rel => exact ⟨i + 1, k, by omega, by omega, by go_num, rfl, HCT, by first | rfl | trivial⟩
        case measure => simp [intOf]; omega
    · have i1 : ¬ (i : Int) < (n : Int) := by omega
      have hin : i = n := by omega
      have hkT : k = T := by
        have h1 := unhide HK
        rw [hin, ← unhide HN, List.take_length, unhide HTT] at h1
        exact h1.symm
      subst hkT
      clear HK HNUM hin HTT
      go_upto_region 9 with (first
        | (go_at_call 13; refine (unhide K13 _).mono ?_; rintro _ _ ⟨rfl, rfl⟩)
        | (go_at_call 14; refine (unhide K14 _ (Below.refl _ _)).mono ?_; rintro _ w2 ⟨rfl, hb2⟩; replace hb2 := hide hb2))
      have hmain : (y < x) ∨ (¬ y < x ∧ (LO : Int) ≤ (LO2 : Int) ∧ (HI : Int) ≤ (HI2 : Int)) := by
        by_cases hyx : y < x
        · exact .inl hyx
        · have := t7 (by omega); exact .inr ⟨hyx, by omega, by omega⟩
      clear t7 K13 K14
      by_cases hxm : x = 9223372036854775807
      · obtain ⟨e1, e2⟩ := t5 hxm
        have v1 : (LO : Int) = (n : Int) := by omega
        have v2 : (HI : Int) = (n : Int) := by omega
        clear t5
        rcases hmain with h1 | ⟨h1, h2, h3⟩
        · go_wp2_with (first
            | (go_at_call 15; refine (unhide K15 _ (unhide hb2)).mono ?_; rintro _ _ ⟨rfl, rfl⟩)
            | (go_at_call 16; refine (unhide K16 _ (unhide hb2)).mono ?_; rintro _ _ ⟨rfl, rfl⟩)
            | (go_at_call 14; refine (unhide K14' _ (unhide hb2)).mono ?_; rintro _ w3 ⟨rfl, hb3⟩; replace hb3 := hide hb3))
          go_ret
          exact ⟨by first | rfl | (simp; omega), below_step (unhide hb2) (unhide hb3)⟩
        · go_wp2_with (first
            | (go_at_call 15; refine (unhide K15 _ (unhide hb2)).mono ?_; rintro _ _ ⟨rfl, rfl⟩)
            | (go_at_call 16; refine (unhide K16 _ (unhide hb2)).mono ?_; rintro _ _ ⟨rfl, rfl⟩)
            | (go_at_call 14; refine (unhide K14' _ (unhide hb2)).mono ?_; rintro _ w3 ⟨rfl, hb3⟩; replace hb3 := hide hb3))
          go_ret
          exact ⟨by first | rfl | (simp; omega), below_step (unhide hb2) (unhide hb3)⟩
      · clear t5
        rcases hmain with h1 | ⟨h1, h2, h3⟩
        · go_wp2_with (first
            | (go_at_call 15; refine (unhide K15 _ (unhide hb2)).mono ?_; rintro _ _ ⟨rfl, rfl⟩)
            | (go_at_call 16; refine (unhide K16 _ (unhide hb2)).mono ?_; rintro _ _ ⟨rfl, rfl⟩)
            | (go_at_call 14; refine (unhide K14' _ (unhide hb2)).mono ?_; rintro _ w3 ⟨rfl, hb3⟩; replace hb3 := hide hb3))
          go_ret
          exact ⟨by first | rfl | (simp; omega), below_step (unhide hb2) (unhide hb3)⟩
        · go_wp2_with (first
            | (go_at_call 15; refine (unhide K15 _ (unhide hb2)).mono ?_; rintro _ _ ⟨rfl, rfl⟩)
            | (go_at_call 16; refine (unhide K16 _ (unhide hb2)).mono ?_; rintro _ _ ⟨rfl, rfl⟩)
            | (go_at_call 14; refine (unhide K14' _ (unhide hb2)).mono ?_; rintro _ w3 ⟨rfl, hb3⟩; replace hb3 := hide hb3))
          go_ret
          exact ⟨by first | rfl | (simp; omega), below_step (unhide hb2) (unhide hb3)⟩
end Go.Proofs.Ytmgnndbcbalafaa

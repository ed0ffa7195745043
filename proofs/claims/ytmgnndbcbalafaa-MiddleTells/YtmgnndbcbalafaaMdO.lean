import Derived.Test.YtmgnndbcbalafaaMdN
set_option linter.unusedSimpArgs false
set_option linter.unusedVariables false
namespace Go.Proofs.Ytmgnndbcbalafaa
open Go.RowKit Go.Sort

set_option maxRecDepth 100000 in
theorem size_any (w : World) (b c tot sl : Nat) (S : Value) (Ls : List Value) (lv : Nat → List Int) (hM : Mid w b c tot sl S Ls lv) (hL : Ls.length ≤ 18) (hl : ∀ j, (lv j).length ≤ 100000) :
    Calls Try.prog 16 #[.pointer (some ⟨b, 0, none⟩)] w fun e w' => e = .returned (.int .i64 (sg (fun j => (lv j).length) Ls.length : Int)) ∧ w' = w := by
  obtain ⟨c0, c1, c2, c3, f0, f1, f2, f3⟩ := hM.facts
  obtain ⟨lb, cap, hS⟩ := hM.slice
  rw [hS] at c3
  have HM := hide hM
  have HSB : Hid (∀ k, sg (fun j => (lv j).length) k ≤ k * 100000) := fun k => by
    induction k with
    | zero => simp [sg]
    | succ k ih => have := hl k; simp only [sg]; omega
  clear hM
  obtain ⟨F, hF⟩ : ∃ F, (fun k => sg (fun j => (lv j).length) k) = F := ⟨_, rfl⟩
  have HF : Hid (∀ k, F (k + 1) = F k + (lv k).length) := fun k => by rw [← hF]; rfl
  have HFB : Hid (∀ k, F k ≤ k * 100000) := fun k => by rw [← hF]; exact unhide HSB k
  have e0 : F 0 = 0 := by rw [← hF]; rfl
  have eN : sg (fun j => (lv j).length) Ls.length = F Ls.length := by rw [← hF]
  rw [eN]
  have HE0 := hide e0
  clear hF eN e0 HSB
  go_enter Try.func16, Try.ntmps16
  go_wp2_with fail
  go_loopw [11, 3] (fun s11 s3 wr => ∃ i : Nat, i ≤ Ls.length ∧ s11 = .int .i64 (i : Int) ∧ s3 = .int .i64 (F i : Int) ∧ wr = w) (fun s _ _ => Ls.length - (intOf s).toNat)
  case atStart => exact ⟨0, by omega, rfl, by rw [unhide HE0]; rfl, rfl⟩
  case round =>
    obtain ⟨i, hi, rfl, rfl, rfl⟩ := hrel
    by_cases hlt : i < Ls.length
    · have i1 : (i : Int) < (Ls.length : Int) := by omega
      obtain ⟨s, hs⟩ : ∃ s, Ls[i]? = some s := ⟨_, List.getElem?_eq_getElem hlt⟩
      have hlst := (unhide HM).lst
      rw [hS] at hlst
      have c4 := own_cell hlst hs
      obtain ⟨a1, k1, rfl, _⟩ := num_of_own2 ((unhide HM).own i s hs)
      have hf := unhide HF i
      have hb := unhide HFB i
      have hli := hl i
      obtain ⟨zl, hzl⟩ : ∃ zl, (lv i).length = zl := ⟨_, rfl⟩
      obtain ⟨Fi, hFi⟩ : ∃ Fi, F i = Fi := ⟨_, rfl⟩
      rw [hzl, hFi] at hf
      rw [hzl] at c4 hli
      rw [hFi] at hb ⊢
      have HF1 := hide hf
      have hb' : Fi ≤ 1800000 := by have : i * 100000 ≤ 18 * 100000 := Nat.mul_le_mul_right _ (by omega); omega
      clear hf hb hFi hzl hlst hs
      go_wp2_with fail
      go_roundw
      case rel => exact ⟨i + 1, by omega, by go_num, by rw [unhide HF1]; go_num, by first | rfl | trivial⟩
      case measure => simp [intOf]; omega
    · have i1 : ¬ (i : Int) < (Ls.length : Int) := by omega
      have he : i = Ls.length := by omega
      subst he
      go_wp2
      go_ret
      exact ⟨rfl, rfl⟩

theorem pow_bound {n c i : Nat} (h : c * 2 ^ i ≤ n) (hn : n ≤ 100000) (hi : i ≤ 60) (L : Nat) (hL : L ≤ 100000) : IntKind.i64.wrap ((L : Int) + IntKind.i64.wrap ((c : Int) * 2 ^ i)) = ((L + c * 2 ^ i : Nat) : Int) := by
  have h2 : (c : Int) * (2 : Int) ^ i = ((c * 2 ^ i : Nat) : Int) := by simp
  rw [h2]
  generalize c * 2 ^ i = P at *
  rw [IntKind.wrap_i64, IntKind.wrap_i64]
  omega

set_option maxHeartbeats 1000000 in
set_option maxRecDepth 100000 in
theorem rank_any (w : World) (b c tot sl : Nat) (S : Value) (Ls : List Value) (lv : Nat → List Int) (h : Nat → Nat) (xs : List Int) (x : Int) (hM : Mid w b c tot sl S Ls lv) (hG : Good c Ls.length lv h sl xs) (ht : tot = xs.length) (hx : xs.length ≤ 100000) (hc : 2 ≤ c) :
    Calls Try.prog 14 #[.pointer (some ⟨b, 0, none⟩), .int .i64 x] w fun e w' => e = .returned (.tuple #[.int .i64 (sg (fun j => cn x (lv j) * 2 ^ j) Ls.length : Int), .int .i64 ((min (sg (fun j => cn x (lv j) * 2 ^ j) Ls.length + sl) tot : Nat) : Int)]) ∧ Below w.heap.size w w' := by
  obtain ⟨c0, c1, c2, c3, f0, f1, f2, f3⟩ := hM.facts
  obtain ⟨lb, cap, hS⟩ := hM.slice
  rw [hS] at c3
  obtain ⟨n1, s1⟩ := hG.bounds hc hx
  have HM := hide hM
  obtain ⟨F, hF⟩ : ∃ F, (fun k => sg (fun j => cn x (lv j) * 2 ^ j) k) = F := ⟨_, rfl⟩
  have HF : Hid (∀ k, F (k + 1) = F k + cn x (lv k) * 2 ^ k) := fun k => by rw [← hF]; rfl
  have hFm : ∀ k, k ≤ Ls.length → F k ≤ xs.length := fun k hk => by
    rw [← hF]
    have h1 := sg_mono (fun j => cn x (lv j) * 2 ^ j) (k := k) Ls.length hk
    have h2 := (hG.low x).1
    have h3 := cn_le x xs
    simp only; omega
  have HFB := hide hFm
  have e0 : F 0 = 0 := by rw [← hF]; rfl
  have eN : sg (fun j => cn x (lv j) * 2 ^ j) Ls.length = F Ls.length := by rw [← hF]
  rw [eN]
  have HE0 := hide e0
  have HRI := hide hG.ris
  have HLV := hide hG.level
  clear hF eN e0 hFm hM hG f0 f1 f2 f3 c0
  go_enter Try.func14, Try.ntmps14
  go_wp2_with fail
  go_loopw [14, 6] (fun s14 s6 wr => ∃ i : Nat, i ≤ Ls.length ∧ s14 = .int .i64 (i : Int) ∧ s6 = .int .i64 (F i : Int) ∧ Hid (Below w.heap.size w wr)) (fun s _ _ => Ls.length - (intOf s).toNat)
  case atStart => exact ⟨0, by omega, rfl, by rw [unhide HE0]; rfl, Below.refl _ _⟩
  case round =>
    obtain ⟨i, hi, rfl, rfl, HB⟩ := hrel
    by_cases hlt : i < Ls.length
    · have i1 : (i : Int) < (Ls.length : Int) := by omega
      obtain ⟨s, hs⟩ : ∃ s, Ls[i]? = some s := ⟨_, List.getElem?_eq_getElem hlt⟩
      have hMr := (unhide HM).later (unhide HB)
      have hlst := hMr.lst
      rw [hS] at hlst
      have c4 := own_cell hlst hs
      obtain ⟨a1, k1, rfl, hn1, _⟩ := num_of_own2 (hMr.own i s hs)
      have HNA := hide (notAbove_any (lv i) x a1 k1 wr (by have := unhide HLV i; omega) (unhide HRI i) hn1)
      obtain ⟨zl, hzl⟩ : ∃ zl, (lv i).length = zl := ⟨_, rfl⟩
      obtain ⟨Fi, hFi⟩ : ∃ Fi, F i = Fi := ⟨_, rfl⟩
      obtain ⟨q, hq⟩ : ∃ q, cn x (lv i) = q := ⟨_, rfl⟩
      have hf := unhide HF i
      have hb1 := unhide HFB (i + 1) hlt
      rw [hq, hFi] at hf
      rw [hf] at hb1
      have HWR := hide (pow_bound (n := xs.length) (c := q) (i := i) (L := Fi) (by omega) hx (by omega) (by omega))
      rw [hFi]
      rw [hzl, hq] at HNA
      rw [hzl] at c4
      have HF1 := hide hf
      have hi6 : (i : Int) ≤ 60 := by omega
      have hi0 : (0 : Int) ≤ (i : Int) := by omega
      clear hf hFi hzl hlst hs hMr hn1 hq hb1
      go_wp2_with (go_at_call 12; refine (unhide HNA).mono ?_; rintro e w2 ⟨rfl, hb2⟩; replace hb2 := hide hb2)
      go_roundw
      case rel => exact ⟨i + 1, by omega, by go_num, by rw [unhide HF1]; rw [← unhide HWR]; simp only [IntKind.wrap_i64, wrap64], below_step (unhide HB) (unhide hb2)⟩
      case measure => simp [intOf]; omega
    · have i1 : ¬ (i : Int) < (Ls.length : Int) := by omega
      have he : i = Ls.length := by omega
      subst he
      have hfl := unhide HFB Ls.length (Nat.le_refl _)
      have d1 := cell_later (unhide HB) c1
      have d2 := cell_later (unhide HB) c2
      obtain ⟨R, hR⟩ : ∃ R, F Ls.length = R := ⟨_, rfl⟩
      rw [hR] at hfl ⊢
      obtain ⟨M, hMm⟩ : ∃ M, min (R + sl) tot = M := ⟨_, rfl⟩
      have hmm : min ((R : Int) + (sl : Int)) (tot : Int) = (M : Int) := by omega
      have hwr : IntKind.i64.wrap ((R : Int) + (sl : Int)) = (R : Int) + (sl : Int) := by rw [IntKind.wrap_i64]; omega
      have hcase : ((R : Int) + (sl : Int) ≤ (tot : Int) ∧ (M : Int) = (R : Int) + (sl : Int)) ∨ ((tot : Int) < (R : Int) + (sl : Int) ∧ (M : Int) = (tot : Int)) := by omega
      go_upto_region 7 with fail
      have k1 := cell_regrown d1
      have k2 := cell_regrown d2
      refine wp_region_quiet_below (by kernel_rfl) (by kernel_rfl) ?_
      repeat (go_big_quiet_step (fail))
      refine wpQuiet_nil ?_
      intro w' hw'
      have hB : Below wr.heap.size wr w' := by obtain ⟨p, rfl⟩ := hw'; exact below_regrown _ _ _
      have HB2 := hide (below_step (unhide HB) hB)
      clear hw' hB k1 k2
      go_wp2
      refine bodyPost_ret (v := .tuple #[.int .i64 (R : Int), .int .i64 (min ((R : Int) + (sl : Int)) (xs.length : Int))]) (by simp [results, Try.results14, go_sem]) rfl ⟨?_, unhide HB2⟩
      have e1 : min ((R : Int) + (sl : Int)) (xs.length : Int) = ((min (R + sl) xs.length : Nat) : Int) := by omega
      rw [e1]
end Go.Proofs.Ytmgnndbcbalafaa

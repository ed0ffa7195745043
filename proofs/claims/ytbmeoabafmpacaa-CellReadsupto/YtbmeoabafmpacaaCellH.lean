import Derived.Test.YtbmeoabafmpacaaCellG
set_option linter.unusedSimpArgs false
set_option linter.unusedVariables false
namespace Go.Proofs.Ytbmeoabafmpacaa
open Go.RowKit Go.Sort

theorem be_alt (U : Int) (k : Nat) (h : k < 8) : U / 2 ^ (8 * (7 - k)) % 256 = be U k := by
  unfold be
  rw [show 8 * (7 - k) = 56 - 8 * k by omega]

set_option maxHeartbeats 1000000 in
theorem bytes8_any (U : Int) (w : World) :
    Calls Try.prog 62 #[.int .u64 U, .int .i64 8] w fun e w' => e = .returned (.string (toB (be8 U 8))) ∧ Below w.heap.size w w' := by
  obtain ⟨i0, hi, hz0, hz1, hz2⟩ := info_parts Try.info5
  go_enter Try.func62, Try.ntmps62
  go_wp2_with fail
  go_loopw [5, 6] (fun b s wr => ∃ k : Nat, k ≤ 8 ∧ s = .int .i64 (7 - (k : Int)) ∧ OwnB wr w.heap.size b (be8 U k) ∧ Below w.heap.size w wr) (fun _ s _ => (intOf s + 1).toNat)
  case atStart => exact ⟨0, Nat.zero_le _, rfl, World.ownsRow_nil _ _ _ _, Below.refl _ _⟩
  case round =>
    obtain ⟨k, hk, rfl, ho, hg⟩ := hrel
    by_cases h8 : k < 8
    · have h9 : (0 : Int) ≤ 7 - (k : Int) := by omega
      have hl : (be8 U k).length = k := be8_len _ _
      have HL := hide hl
      clear hl
      go_wp2_with (at_builtin; refine wpList_append_own_at _ rfl (.tmp 13) (.tmp 19) 65 rfl w.heap.size 5 i0 (.int .u8 0) 1 1 Try.underlying65 hi hz0 hz1 hz2 rfl (by decide) _ _ _ rfl (World.ownsRow.alloc ho _) ⟨wr.heap.size, 0, none⟩ 1 1 [.int .u8 (U / 2 ^ (8 * (7 - k)) % 256)] rfl rfl (cell_one_new _ _ _) (by intro u hu; simp at hu; subst hu; rfl) (by rw [unhide HL]; unfold maxLen; omega) (by rw [unhide HL]; omega) (by have := hg.size; simp; omega) ?_; intro v' w1 hown' hgrow _ hat)
      have hg2 := Grew.app (Grew.refl wr u5) hgrow hat
      have ho2 := ownB_app (news := [U / 2 ^ (8 * (7 - k)) % 256]) rfl hown'
      rw [be_alt U k h8, ← be8_succ] at ho2
      have hb1 : Below w.heap.size w w1 := hg.trans (hg2.below hg.size (fun g hh => (ownB_lt ho hh).1))
      go_roundw
      case rel => exact ⟨k + 1, by omega, by go_num, ho2, hb1⟩
      case measure => simp only [intOf]; omega
    · have hk8 : k = 8 := by omega
      subst hk8
      have hcv := convert_own ho
      go_wp2
      go_ret
      exact ⟨rfl, hg⟩

def ofI (n : Int) : UInt8 := UInt8.ofNat n.toNat
theorem toB_fold (zs : List Int) : ∀ acc : ByteArray, zs.foldl (fun r n => r.push (UInt8.ofNat n.toNat)) acc = ⟨acc.data ++ (zs.map ofI).toArray⟩ := by
  induction zs with
  | nil => intro acc; simp
  | cons z zs ih =>
    intro acc
    rw [List.foldl_cons, ih]
    congr 1
    simp [ByteArray.push, ofI]
theorem toB_eq (zs : List Int) : toB zs = ⟨(zs.map ofI).toArray⟩ := by
  unfold toB
  rw [toB_fold]
  show ByteArray.mk (#[] ++ _) = _
  rw [Array.empty_append]
theorem toB_append (a b : List Int) : toB (a ++ b) = toB a ++ toB b := by
  rw [toB_eq, toB_eq, toB_eq]
  simp only [List.map_append]
  apply ByteArray.ext
  simp
theorem toB_size (a : List Int) : (toB a).size = a.length := by
  rw [toB_eq]; simp [ByteArray.size]
theorem toB_cons (z : Int) (a : List Int) : toB (z :: a) = toB [z] ++ toB a := toB_append [z] a
theorem toB_1 : toB [1] = ⟨#[1]⟩ := rfl
theorem toB_2 : toB [2] = ⟨#[2]⟩ := rfl
theorem toB_3 : toB [3] = ⟨#[3]⟩ := rfl
theorem toB_255 : toB [255] = ⟨#[255]⟩ := rfl
theorem toB_01 : toB [0, 1] = ⟨#[0, 1]⟩ := rfl
theorem extract_one (x : ByteArray) (j : Nat) (h : j < x.size) : x.extract j (j + 1) = toB [(x[j].toNat : Int)] := by
  have e : ofI (x[j].toNat : Int) = x[j] := by simp [ofI]
  rw [toB_eq, List.map_cons, List.map_nil, e]
  apply WideShapes.bytes_inj
  rw [Lib.extract_data]
  have h' : j < x.data.toList.length := by simpa using h
  rw [List.drop_eq_getElem_cons h']
  simp
  rfl

set_option maxHeartbeats 4000000 in
set_option maxRecDepth 100000 in
theorem rkey_any (aa : Option Addr) (ca : Nat) (xs : List Val) (w : World) (hla : xs.length ≤ maxLen) (hw : wides xs ≤ 140737488300000) (ha : RowAt w aa xs) :
    Calls Try.prog 28 #[.slice aa xs.length ca] w fun e w' => e = .returned (.string (toB (keyL xs))) ∧ Below w.heap.size w w' := by
  unfold maxLen at hla
  go_enter Try.func28, Try.ntmps28
  go_wp2_with fail
  go_loopw [3, 9] (fun s i wr => ∃ k : Nat, k ≤ xs.length ∧ i = .int .i64 k ∧ s = .string (toB (keyL (xs.take k))) ∧ Below w.heap.size w wr) (fun _ i wx => xs.length - (intOf i).toNat)
  case atStart => exact ⟨0, Nat.zero_le _, rfl, rfl, Below.refl _ _⟩
  case round =>
    obtain ⟨k, hk1, rfl, rfl, hbel⟩ := hrel
    have ha' := ha.later hbel
    by_cases h1 : k < xs.length
    · obtain ⟨x, hx⟩ : ∃ x, xs[k]? = some x := ⟨_, List.getElem?_eq_getElem h1⟩
      rcases ha' with e | ⟨ba, oa, rfl, hca⟩
      · subst e; simp at h1
      obtain ⟨c0, c1, c2⟩ := hca k x hx
      have i1 : (k : Int) < (xs.length : Int) := by omega
      have HT := hide (keyL_take hx)
      have hl : (keyL (xs.take k)).length + wide x ≤ 140737488300000 := by
        have h1 := keyL_len (xs.take k)
        have h2 := wides_take hx
        omega
      have HC := hide (rclean_any x)
      clear hca hx
      generalize keyL (xs.take k) = zs at *
      go_upto_region 5 with fail
      go_cut [] (fun wx => BoxAt wx wr.heap.size (cleanV x) ∧ Below w.heap.size w wx)
      case first =>
        go_wp2_with (go_at_call 10; refine (unhide HC _).mono ?_; rintro e w1 ⟨rfl, hb1⟩; obtain ⟨hc1, hf1⟩ := bcell hb1; rw [Val.open_])
        go_meet
        refine ⟨⟨by simp [go_sem, hc1, hf1], by simp [go_sem, hc1, hf1], by simp [go_sem, hc1, hf1]⟩, ?_⟩
        exact ((((below_step (below_alloc hbel _) hb1).setCell (by simpa using hbel.size) _).setCell (by simpa using hbel.size) _).setCell (by simpa using hbel.size) _)
      case rest =>
        obtain ⟨⟨q0, q1, q2⟩, hbel2⟩ := hcut
        clear HC c0 c1 c2
        rename World => wa
        unfold wide at hl
        rcases Bool.eq_false_or_eq_true (x.k == 1) with k1 | k1
        · have hv : cleanV x = .num x.n := by simp [cleanV, k1]
          have HV : Hid (encV x = 2 :: be8 (keyU x.n) 8) := by show _ = _; simp [encV, k1]
          rw [hv] at q0 q1 q2
          simp only [Val.num] at q0 q1 q2
          clear hv k1
          have z1 : (toB (be8 (keyU x.n) 8)).size = 8 := by rw [toB_size, be8_len]
          have z2 : (toB zs).size ≤ 140737488300000 := by rw [toB_size]; omega
          have HB := hide (bytes8_any (keyU x.n))
          generalize hb8 : toB (be8 (keyU x.n) 8) = B8 at *
          have HB8 := hide hb8
          clear hb8
          generalize hS : toB zs = S at *
          have HS := hide hS
          clear hS
          have n1 : ¬ 9223372036854775807 < 1 + B8.size := by omega
          have n2 : ¬ 9223372036854775807 < S.size + (1 + B8.size) := by omega
          go_wp2_with (go_at_call 62; refine (unhide HB _).mono ?_; rintro e w1 ⟨rfl, hb1⟩)
          have hval : S ++ (⟨#[2]⟩ ++ B8) = toB (keyL (xs.take (k + 1))) := by
            rw [unhide HT, unhide HV, toB_append, toB_cons, toB_2, unhide HS, unhide HB8]
          go_roundw
          case rel => exact ⟨k + 1, by omega, by go_num, congrArg Value.string hval, below_step hbel2 hb1⟩
          case measure => simp [intOf]; omega
        · rcases Bool.eq_false_or_eq_true (x.k == 2) with k2 | k2
          · have hv : cleanV x = .str x.s := by simp [cleanV, k1, k2]
            have HV : Hid (encV x = 3 :: (encT x.s.data.toList ++ [0, 1])) := by show _ = _; simp [encV, k1, k2]
            rw [hv] at q0 q1 q2
            simp only [Val.str] at q0 q1 q2
            clear hv k1 k2
            have z2 : (toB zs).size ≤ 140737488300000 := by rw [toB_size]; omega
            have n1 : ¬ 9223372036854775807 < (toB zs).size + 1 := by omega
            have hss : (x.s.size : Int) ≤ 140737488300000 := by omega
            go_wp2_with fail
            go_loop [3, 6] (fun st i => ∃ j : Nat, j ≤ x.s.size ∧ i = .int .i64 j ∧ st = .string (toB (zs ++ (3 :: encT (x.s.data.toList.take j))))) (fun _ i => x.s.size - (intOf i).toNat)
            case atStart => exact ⟨0, Nat.zero_le _, rfl, congrArg Value.string (by rw [toB_append]; simp [encT, toB_3])⟩
            case round =>
              obtain ⟨j, hj, rfl, rfl⟩ := hrel
              have z3 : (toB (zs ++ (3 :: encT (x.s.data.toList.take j)))).size ≤ zs.length + 1 + 2 * j := by
                rw [toB_size, List.length_append, List.length_cons]
                have h1 := encT_len (x.s.data.toList.take j)
                have h2 : (x.s.data.toList.take j).length ≤ j := List.length_take_le _ _
                omega
              by_cases hj1 : j < x.s.size
              · have i2 : (j : Int) < (x.s.size : Int) := by omega
                have z4 : (x.s.extract j (j + 1)).size = 1 := by rw [extract_one _ _ hj1, toB_size]; rfl
                by_cases h0 : (x.s[j].toNat : Int) = 0
                · have h0' : ((x.s[j].toNat : Int) == 0) = true := by simpa using h0
                  have HE : Hid (toB (zs ++ (3 :: encT (x.s.data.toList.take (j + 1)))) = toB (zs ++ (3 :: encT (x.s.data.toList.take j))) ++ x.s.extract j (j + 1) ++ ⟨#[255]⟩) := by
                    show _ = _
                    rw [enc_zero _ _ hj1 h0, extract_one _ _ hj1, ← toB_255, ← toB_append, ← toB_append]
                    simp
                  clear h0
                  generalize toB (zs ++ (3 :: encT (x.s.data.toList.take j))) = S at *
                  have n2 : ¬ 9223372036854775807 < S.size + (x.s.extract j (j + 1)).size := by omega
                  have n3 : ¬ 9223372036854775807 < S.size + (x.s.extract j (j + 1)).size + 1 := by omega
                  go_wp2
                  go_round
                  case rel => exact ⟨j + 1, by omega, by go_num, congrArg Value.string (unhide HE).symm⟩
                  case measure => simp [intOf]; omega
                · have h0' : ((x.s[j].toNat : Int) == 0) = false := by simpa using h0
                  have HE : Hid (toB (zs ++ (3 :: encT (x.s.data.toList.take (j + 1)))) = toB (zs ++ (3 :: encT (x.s.data.toList.take j))) ++ x.s.extract j (j + 1)) := by
                    show _ = _
                    rw [enc_other _ _ hj1 h0, extract_one _ _ hj1, ← toB_append]
                    simp
                  clear h0
                  generalize toB (zs ++ (3 :: encT (x.s.data.toList.take j))) = S at *
                  have n2 : ¬ 9223372036854775807 < S.size + (x.s.extract j (j + 1)).size := by omega
                  go_wp2
                  go_round
                  case rel => exact ⟨j + 1, by omega, by go_num, congrArg Value.string (unhide HE).symm⟩
                  case measure => simp [intOf]; omega
              · have i2 : ¬ (j : Int) < (x.s.size : Int) := by omega
                have HE : Hid (toB (zs ++ (3 :: encT (x.s.data.toList.take j))) ++ ⟨#[0, 1]⟩ = toB (keyL (xs.take (k + 1)))) := by
                  show _ = _
                  rw [unhide HT, unhide HV, List.take_of_length_le (by simp; omega), ← toB_01, ← toB_append]
                  simp
                generalize toB (zs ++ (3 :: encT (x.s.data.toList.take j))) = S at *
                have n2 : ¬ 9223372036854775807 < S.size + 2 := by omega
                go_wp2
                go_roundw
                case rel => exact ⟨k + 1, by omega, by go_num, congrArg Value.string (unhide HE), hbel2⟩
                case measure => simp [intOf]; omega
          · have hv : cleanV x = .null := by simp [cleanV, k1, k2]
            have HV : Hid (encV x = [1]) := by show _ = _; simp [encV, k1, k2]
            rw [hv] at q0 q1 q2
            simp only [Val.null] at q0 q1 q2
            clear hv k1 k2
            have z2 : (toB zs).size ≤ 140737488300000 := by rw [toB_size]; omega
            generalize hS : toB zs = S at *
            have HS := hide hS
            clear hS
            have n1 : ¬ 9223372036854775807 < S.size + 1 := by omega
            go_wp2
            have hval : S ++ ⟨#[1]⟩ = toB (keyL (xs.take (k + 1))) := by
              rw [unhide HT, unhide HV, toB_append, toB_1, unhide HS]
            go_roundw
            case rel => exact ⟨k + 1, by omega, by go_num, congrArg Value.string hval, hbel2⟩
            case measure => simp [intOf]; omega
    · have e : k = xs.length := by omega
      have i1 : ¬ (k : Int) < (xs.length : Int) := by omega
      have HE : Hid (xs.take k = xs) := List.take_of_length_le (by omega)
      clear e
      go_wp2
      go_ret
      exact ⟨by rw [unhide HE]; rfl, hbel⟩

end Go.Proofs.Ytbmeoabafmpacaa

import Derived.Test.YtbmeoabafmpacaaCellL
import Derived.Test.YtbmeoabafmpacaaCellN
set_option linter.unusedSimpArgs false
set_option linter.unusedVariables false
namespace Go.Proofs.Ytbmeoabafmpacaa
open Go.RowKit Go.Sort

set_option maxHeartbeats 2000000 in
set_option maxRecDepth 100000 in
theorem lsame_any (aa ab : Option Addr) (ca cb : Nat) (xs : List Val) (w : World) (hla : xs.length ≤ maxLen) (ha : RowAt w aa xs) (hb : RowAt w ab xs) :
    Calls Try.prog 32 #[.slice aa xs.length ca, .slice ab xs.length cb] w fun e w' => e = .returned (.bool true) ∧ Below w.heap.size w w' := by
  unfold maxLen at hla
  go_enter Try.func32, Try.ntmps32
  go_wp2_with fail
  go_loopw [13] (fun i wr => ∃ k : Nat, k ≤ xs.length ∧ i = .int .i64 k ∧ Below w.heap.size w wr) (fun i wx => xs.length - (intOf i).toNat)
  case atStart => exact ⟨0, Nat.zero_le _, rfl, Below.refl _ _⟩
  case round =>
    obtain ⟨k, hk1, rfl, hbel⟩ := hrel
    have ha' := ha.later hbel
    have hb' := hb.later hbel
    by_cases h1 : k < xs.length
    · obtain ⟨x, hx⟩ : ∃ x, xs[k]? = some x := ⟨_, List.getElem?_eq_getElem h1⟩
      rcases ha' with e | ⟨ba, oa, rfl, hca⟩
      · subst e; simp at h1
      rcases hb' with e | ⟨bb, ob, rfl, hcb⟩
      · subst e; simp at h1
      obtain ⟨c0, c1, c2⟩ := hca k x hx
      obtain ⟨d0, d1, d2⟩ := hcb k x hx
      have i1 : (k : Int) < (xs.length : Int) := by omega
      clear hca hcb hx
      go_wp2_with fail
      go_quiet (fail)
      go_wp2
      go_roundw
      case rel => exact ⟨k + 1, by omega, by go_num, below_drewN hbel _⟩
      case measure => simp [intOf]; omega
    · have i1 : ¬ (k : Int) < (xs.length : Int) := by omega
      go_wp2
      go_ret
      exact ⟨rfl, hbel⟩


theorem lnum_any (n : Int) (w : World) : Calls Try.prog 31 #[.int .i64 n] w fun e w' => e = .returned (.int .i64 n) ∧ w' = w := by
  go_enter Try.func31, Try.ntmps31
  go_wp2
  go_ret
  exact ⟨rfl, rfl⟩

theorem hor_take (t : ByteArray) (k : Nat) (h : k < t.size) : hor (t.data.toList.take (k + 1)) = hor (t.data.toList.take k) * 256 + (t[k].toNat : Int) := by
  rw [take_snoc t k h, hor_snoc]

set_option maxHeartbeats 1000000 in
theorem rnumber_any (t : ByteArray) (w : World) (h8 : t.size = 8) :
    Calls Try.prog 64 #[.string t] w fun e w' => e = .returned (.int .u64 (hor t.data.toList)) ∧ w' = w := by
  have HS := hide h8
  have hs1 : (8 : Int) ≤ (t.size : Int) := by omega
  have hs2 : (t.size : Int) ≤ 8 := by omega
  clear h8
  go_enter Try.func64, Try.ntmps64
  go_wp2_with fail
  go_loop [3, 4] (fun u i => ∃ k : Nat, k ≤ t.size ∧ i = .int .i64 k ∧ u = .int .u64 (hor (t.data.toList.take k))) (fun _ i => t.size - (intOf i).toNat)
  case atStart => exact ⟨0, Nat.zero_le _, rfl, rfl⟩
  case round =>
    obtain ⟨k, hk, rfl, rfl⟩ := hrel
    by_cases h9 : k < t.size
    · have i1 : (k : Int) < (t.size : Int) := by omega
      have HE : Hid (bits BinOp.or IntKind.u64 (IntKind.u64.wrap (hor (t.data.toList.take k) * 256)) (IntKind.u64.wrap (t[k].toNat : Int)) = hor (t.data.toList.take (k + 1))) := by
        show _ = _
        have h8 := unhide HS
        have h1 := hor_lt k (t.data.toList.take k) (by simp; omega)
        have h2 : (256 : Int) ^ k ≤ 256 ^ 7 := by
          rcases (show k = 0 ∨ k = 1 ∨ k = 2 ∨ k = 3 ∨ k = 4 ∨ k = 5 ∨ k = 6 ∨ k = 7 by omega) with rfl | rfl | rfl | rfl | rfl | rfl | rfl | rfl <;> decide
        have h3 := UInt8.toNat_lt t[k]
        rw [or_step _ _ (hor_nonneg _) (by omega) (by omega) (by omega), hor_take t k h9]
      go_wp2
      go_round
      case rel => exact ⟨k + 1, by omega, by go_num, congrArg (Value.int IntKind.u64) (unhide HE)⟩
      case measure => simp [intOf]; omega
    · have i1 : ¬ (k : Int) < (t.size : Int) := by omega
      have HE : Hid (t.data.toList.take k = t.data.toList) := List.take_of_length_le (by simp; omega)
      go_wp2
      go_ret
      exact ⟨by rw [unhide HE]; rfl, rfl⟩

theorem rkey_one (x : Val) (b : Nat) (w : World) (hw : x.s.size ≤ 1000000000) (h0 : w.cell? ⟨b, 0, none⟩ = some (.int .i64 x.k)) (h1 : w.cell? ⟨b, 1, none⟩ = some (.int .i64 x.n)) (h2 : w.cell? ⟨b, 2, none⟩ = some (.string x.s)) :
    Calls Try.prog 28 #[.slice (some ⟨b, 0, none⟩) 1 1] w fun e w' => e = .returned (.string (toB (encV x))) ∧ Below w.heap.size w w' := by
  have := rkey_any (some ⟨b, 0, none⟩) 1 [x] w (by show 1 ≤ maxLen; decide) (by simp [wides, wide]; omega) (.inr ⟨b, 0, rfl, fun i y hy => by
    match i, hy with
    | 0, hy => simp at hy; subst hy; simpa using ⟨h0, h1, h2⟩
    | i + 1, hy => simp at hy⟩)
  simpa [keyL] using this

theorem preV_iff (x : Val) (s : ByteArray) : PreV x s ↔ ((toB (encV x)).size ≤ s.size ∧ s.extract 0 (toB (encV x)).size = toB (encV x)) := by
  unfold PreV Pre
  have ed : dropB s 0 = s.data.toList := by simp [dropB]
  rw [ed, toB_size]
  constructor
  · rintro ⟨r, hr⟩
    have hl : s.size = (encV x).length + r.length := by
      have := congrArg List.length hr
      simpa using this
    refine ⟨by omega, ?_⟩
    apply WideShapes.bytes_inj
    rw [Lib.extract_data, toB_list, hr]
    simp
  · rintro ⟨h1, h2⟩
    refine ⟨s.data.toList.drop (encV x).length, ?_⟩
    have e := congrArg (fun b : ByteArray => b.data.toList) h2
    simp only [Lib.extract_data, toB_list, List.drop_zero, Nat.sub_zero] at e
    rw [← e, List.take_append_drop]
theorem dec_yes {s : ByteArray} {x : Val} (h0 : 0 < s.size) (hc : cand s = some x) (hp : PreV x s) : decode s = (decode (s.extract (toB (encV x)).size s.size)).map (x :: ·) := by
  rw [decode_some s x _ ((cand_first s h0).2.1 x hc hp), toB_size]
theorem dec_no {s : ByteArray} {x : Val} (h0 : 0 < s.size) (hc : cand s = some x) (hp : ¬ PreV x s) : decode s = none := decode_none s h0 ((cand_first s h0).2.2 x hc hp)
theorem dec_none {s : ByteArray} (h0 : 0 < s.size) (hc : cand s = none) : decode s = none := decode_none s h0 ((cand_first s h0).1 hc)

end Go.Proofs.Ytbmeoabafmpacaa

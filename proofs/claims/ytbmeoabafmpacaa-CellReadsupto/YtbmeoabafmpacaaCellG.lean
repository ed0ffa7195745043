import Derived.Test.YtbmeoabafmpacaaCellF
set_option linter.unusedSimpArgs false
set_option linter.unusedVariables false
namespace Go.Proofs.Ytbmeoabafmpacaa
open Go.RowKit Go.Sort

/-- The bytes as a text. -/
def toB (zs : List Int) : ByteArray := zs.foldl (fun r n => r.push (UInt8.ofNat n.toNat)) ByteArray.empty

theorem convert_own {w : World} {base : Nat} {v : Value} {zs : List Int} (h : OwnB w base v zs) : (convert 65 9 v).run Try.prog w = .ok (.string (toB zs)) w := by
  rcases h.2 with ⟨rfl, h0⟩ | ⟨g, cap, cur, rfl, hb, hg, _⟩
  · have : zs = [] := List.eq_nil_of_length_eq_zero h0
    subst this
    rw [run_convert_bytes_string w 65 9 5 none 0 0 Try.underlying65 Try.underlying5 Try.underlying9]
    rfl
  · rw [run_convert_bytes_string w 65 9 5 _ _ _ Try.underlying65 Try.underlying5 Try.underlying9]
    refine run_bytesToString w _ _ _ zs ?_
    have := run_loadCells_list (P := Try.prog) (w := w) ⟨g, 0, none⟩ (zs.map (Value.int .u8)) (World.ownsRow.cells h rfl)
    simpa using this

def keyL (xs : List Val) : List Int := xs.flatMap encV
theorem keyL_take {xs : List Val} {k : Nat} {x : Val} (h : xs[k]? = some x) : keyL (xs.take (k + 1)) = keyL (xs.take k) ++ encV x := by
  obtain ⟨h1, rfl⟩ := List.getElem?_eq_some_iff.1 h
  unfold keyL
  rw [List.take_succ_eq_append_getElem h1, List.flatMap_append, List.flatMap_cons, List.flatMap_nil, List.append_nil]
def wides (xs : List Val) : Nat := (xs.map wide).sum
theorem encV_len (x : Val) : (encV x).length ≤ wide x := by
  unfold encV wide
  split
  · simp [be8_len]; omega
  · split
    · have := encT_len x.s.data.toList
      simp at this
      simp
      omega
    · simp; omega
theorem keyL_len (xs : List Val) : (keyL xs).length ≤ wides xs := by
  induction xs with
  | nil => simp [keyL, wides]
  | cons x xs ih =>
    have := encV_len x
    simp only [keyL, wides, List.flatMap_cons, List.length_append, List.map_cons, List.sum_cons] at *
    omega
theorem wides_take {xs : List Val} {k : Nat} {x : Val} (h : xs[k]? = some x) : wides (xs.take k) + wide x ≤ wides xs := by
  obtain ⟨h1, rfl⟩ := List.getElem?_eq_some_iff.1 h
  have e : xs = xs.take k ++ xs[k] :: xs.drop (k + 1) := by rw [← List.drop_eq_getElem_cons h1, List.take_append_drop]
  have e2 : wides xs = wides (xs.take k ++ xs[k] :: xs.drop (k + 1)) := congrArg wides e
  rw [e2]
  simp only [wides, List.map_append, List.map_cons, List.sum_append, List.sum_cons]
  omega

set_option maxHeartbeats 2000000 in
set_option maxRecDepth 100000 in
theorem key_any (aa : Option Addr) (ca : Nat) (xs : List Val) (w : World) (hla : xs.length ≤ maxLen) (hw : wides xs ≤ 140737488300000) (ha : RowAt w aa xs) :
    Calls Try.prog 27 #[.slice aa xs.length ca] w fun e w' => e = .returned (.string (toB (keyL xs))) ∧ Below w.heap.size w w' := by
  unfold maxLen at hla
  go_enter Try.func27, Try.ntmps27
  go_wp2_with fail
  go_loopw [3, 8] (fun key i wr => ∃ k : Nat, k ≤ xs.length ∧ i = .int .i64 k ∧ OwnB wr w.heap.size key (keyL (xs.take k)) ∧ Below w.heap.size w wr) (fun _ i wx => xs.length - (intOf i).toNat)
  case atStart => exact ⟨0, Nat.zero_le _, rfl, World.ownsRow_nil _ _ _ _, Below.refl _ _⟩
  case round =>
    obtain ⟨k, hk1, rfl, ho, hbel⟩ := hrel
    have ha' := ha.later hbel
    by_cases h1 : k < xs.length
    · obtain ⟨x, hx⟩ : ∃ x, xs[k]? = some x := ⟨_, List.getElem?_eq_getElem h1⟩
      rcases ha' with e | ⟨ba, oa, rfl, hca⟩
      · subst e; simp at h1
      obtain ⟨c0, c1, c2⟩ := hca k x hx
      have i1 : (k : Int) < (xs.length : Int) := by omega
      have HT := hide (keyL_take hx)
      have hl : (keyL (xs.take k)).length + wide x ≤ 140737488300000 := by
        have h1 := keyL_len (xs.take k)
        have h2 := wides_take hx
        omega
      have HC := hide (fun W (hW : OwnB W w.heap.size u3 (keyL (xs.take k))) (hs : w.heap.size ≤ W.heap.size) => appval_any w.heap.size (keyL (xs.take k)) x u3 W hW hl hs)
      clear hca hx hl
      go_wp2_with (go_at_call 61; refine (unhide HC _ ?_ ?_).mono ?_; (exact World.ownsRow.alloc ho _); (have := hbel.size; simp; omega); rintro e w1 ⟨v1, rfl, ho1, hg1⟩)
      have hb1 : Below w.heap.size w w1 := (below_alloc hbel _).trans (hg1.below (by have := hbel.size; simp; omega) (fun g hg => (ownB_lt ho hg).1))
      rw [← unhide HT] at ho1
      go_roundw
      case rel => exact ⟨k + 1, by omega, by go_num, ho1, hb1⟩
      case measure => simp [intOf]; omega
    · have e : k = xs.length := by omega
      have i1 : ¬ (k : Int) < (xs.length : Int) := by omega
      have HE : Hid (xs.take k = xs) := List.take_of_length_le (by omega)
      have hcv := convert_own ho
      rw [unhide HE] at hcv
      clear e
      go_wp2
      go_ret
      exact ⟨rfl, hbel⟩

end Go.Proofs.Ytbmeoabafmpacaa

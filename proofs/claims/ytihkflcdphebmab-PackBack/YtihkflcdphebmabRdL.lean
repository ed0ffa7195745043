import Derived.Test.YtihkflcdphebmabRdK
import Derived.Test.YtihkflcdphebmabAnyG
import Derived.Laws.CopyOwn
set_option linter.unusedSimpArgs false
set_option linter.unusedVariables false
namespace Go.Proofs.Ytihkflcdphebmab
open Go.RowKit Go.Sort

theorem run_copy3 (w : World) (ty : TypeId) (g o dLen dCap : Nat) (a : Addr) (sLen sCap n : Nat) (cur : Array Value) (t : TypeId) (cs : List Value)
    (hg : w.heap[g]? = some (.cells cur t (0, 0))) (hn : n = Nat.min sLen dLen) (hl : cs.length = n * 3)
    (hsrc : ∀ j v, cs[j]? = some v → w.cell? (a.add j) = some v) (hfit : o + cs.length ≤ cur.size) (h1 : ∀ v ∈ cs, v.oneCell' = true) :
    (Builtin.copy_ #[22, 22] ty #[.slice (some ⟨g, o, none⟩) dLen dCap, .slice (some a) sLen sCap]).run Try.prog w =
      .ok (goInt n) (w.setRow g (cur.toList.take o ++ cs ++ cur.toList.drop (o + cs.length)).toArray) := by
  obtain ⟨i4, hi4, z40, z41, z42⟩ := info_parts Try.info40
  have hld := run_loadCells_list (P := Try.prog) w a cs hsrc
  have hst := run_storeCells_at Try.prog g o t cs 0 cur w hg (by simpa using hfit) h1
  rw [hl] at hld
  simp [Builtin.copy_, run_underlying Try.underlying22, Builtin.lenOf, Builtin.firstCells, sizeOf, typeInfo, hi4, z41, ← hn, hld, hst]
/-- A row of values, whole. -/
def RowL (w : World) (g : Nat) (ys : List Val) : Prop := w.heap[g]? = some (.cells (ys.flatMap c3).toArray 40 (0, 0))
theorem flat_take3 : ∀ (ys : List Val) (n : Nat), (ys.flatMap c3).take (n * 3) = (ys.take n).flatMap c3
  | ys, 0 => by simp
  | [], n + 1 => by simp
  | y :: ys, n + 1 => by
    have := flat_take3 ys n
    rw [List.flatMap_cons, List.take_succ_cons, List.flatMap_cons, Nat.succ_mul, Nat.add_comm]
    show List.take (3 + n * 3) (Value.int .i64 y.k :: Value.int .i64 y.n :: Value.string y.s :: ys.flatMap c3) = _
    rw [show 3 + n * 3 = (n * 3 + 1 + 1) + 1 by omega, List.take_succ_cons, List.take_succ_cons, List.take_succ_cons, this]
    rfl
theorem flat_drop : ∀ (ys : List Val) (n : Nat), (ys.flatMap c3).drop (n * 3) = (ys.drop n).flatMap c3
  | ys, 0 => by simp
  | [], n + 1 => by simp
  | y :: ys, n + 1 => by
    have := flat_drop ys n
    rw [List.flatMap_cons, List.drop_succ_cons, Nat.succ_mul, Nat.add_comm]
    show List.drop (3 + n * 3) (Value.int .i64 y.k :: Value.int .i64 y.n :: Value.string y.s :: ys.flatMap c3) = _
    rw [show 3 + n * 3 = (n * 3 + 1 + 1) + 1 by omega, List.drop_succ_cons, List.drop_succ_cons, List.drop_succ_cons, this]
theorem RowL.cell {w : World} {g : Nat} {ys : List Val} (h : RowL w g ys) {i : Nat} {v : Value} (hv : (ys.flatMap c3)[i]? = some v) : w.cell? ⟨g, i, none⟩ = some v := by
  unfold World.cell?
  simp only [RowL] at h
  simp [h, hv]
theorem RowL.copy {w : World} {g n : Nat} {ys zs : List Val} {ty : TypeId} {dLen dCap sLen sCap m : Nat} {a : Addr} (h : RowL w g ys) (hm : m = Nat.min sLen dLen) (hz : zs.length = m) (hfit : n + m ≤ ys.length)
    (hsrc : ∀ j v, (zs.flatMap c3)[j]? = some v → w.cell? (a.add j) = some v) :
    ∃ w', (Builtin.copy_ #[22, 22] ty #[.slice (some ⟨g, n * 3, none⟩) dLen dCap, .slice (some a) sLen sCap]).run Try.prog w = .ok (goInt m) w' ∧ RowL w' g (ys.take n ++ zs ++ ys.drop (n + m)) ∧ ∀ B w0, Below B w0 w → B ≤ g → Below B w0 w' := by
  refine ⟨_, run_copy3 w ty g (n * 3) dLen dCap a sLen sCap m _ 40 (zs.flatMap c3) h hm (by rw [flat_len, hz]) hsrc (by rw [flat_len, hz]; simp only [List.size_toArray]; rw [flat_len]; omega) (fun v hv => by
    obtain ⟨z, _, hz⟩ := List.mem_flatMap.1 hv
    exact c3_one z v hz), ?_, fun B w0 hb hB => below_setRow hb hB _⟩
  have := setRow_heap w g _ ((ys.flatMap c3).toArray.toList.take (n * 3) ++ zs.flatMap c3 ++ (ys.flatMap c3).toArray.toList.drop (n * 3 + (zs.flatMap c3).length)).toArray 40 _ h
  unfold RowL
  rw [this]
  congr 2
  rw [flat_len, hz, ← Nat.add_mul, flat_take3, flat_drop, List.flatMap_append, List.flatMap_append]
theorem RowL.made (w : World) (n : Nat) : RowL (w.alloc (.cells (madeCells #[.int .i64 0, .int .i64 0, .string ⟨#[]⟩] (n * 3)) 40)) w.heap.size (List.replicate n Val.null) := by
  unfold RowL
  have e : madeCells #[.int .i64 0, .int .i64 0, .string ⟨#[]⟩] (n * 3) = ((List.replicate n Val.null).flatMap c3).toArray := by
    apply Array.ext
    · rw [size_madeCells]; simp only [List.size_toArray]; rw [flat_len, List.length_replicate]
    · intro j h1 h2
      rw [size_madeCells] at h1
      have hx : (List.replicate n Val.null)[j / 3]? = some Val.null := by rw [List.getElem?_replicate, if_pos (by omega)]
      have hf := flat_at (List.replicate n Val.null) (j / 3) (j % 3) Val.null hx (Nat.mod_lt _ (by decide))
      rw [show j / 3 * 3 + j % 3 = j by omega] at hf
      have h3 : j % 3 = 0 ∨ j % 3 = 1 ∨ j % 3 = 2 := by omega
      have hg : ((List.replicate n Val.null).flatMap c3)[j]? = some (((List.replicate n Val.null).flatMap c3).toArray[j]) := by simp
      rw [hg] at hf
      simp only [madeCells, Array.getElem_map, Array.getElem_range]
      rcases h3 with h3 | h3 | h3 <;> (rw [h3] at hf; simp [h3]; simp [c3, Val.null] at hf; exact hf.symm)
  rw [e]
  exact Deep.blk_alloc_new _ _
theorem RowL.own {w : World} {g B : Nat} {ys : List Val} (h : RowL w g ys) (hB : B ≤ g) (hl : ys.length ≤ 100000) : OwnV w B (.slice (some ⟨g, 0, none⟩) ys.length ys.length) ys := by
  refine ⟨flat_len ys, .inr ⟨g, ys.length, _, rfl, hB, h, Nat.le_refl _, by unfold maxLen; omega, by simp only [List.size_toArray]; exact flat_len ys, ?_⟩⟩
  rw [List.take_of_length_le (by rw [← flat_len ys]; exact Nat.le_refl _)]
end Go.Proofs.Ytihkflcdphebmab

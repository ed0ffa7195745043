import Derived.Test.YtmgnndbcbalafaaMdD
import Derived.Shelf.SortG.Plain
import Derived.Shelf.SortG.SortNone
import Derived.Shelf.SlGeneric
import Derived.Ground.SlgnProg
import Derived.Test.YtmgnndbcbalafaaProg
set_option linter.unusedSimpArgs false
set_option linter.unusedVariables false
namespace Go.Proofs.Ytmgnndbcbalafaa
open Go.RowKit Go.Sort Go.Shelf
def Try.sortL_ren : Go.Shelf.Ren := ⟨fun | 53 => 17 | 64 => 24 | 63 => 23 | 78 => 35 | 79 => 36 | 70 => 26 | 71 => 27 | 72 => 28 | 73 => 29 | 74 => 30 | 75 => 31 | 59 => 32 | 76 => 33 | 77 => 34 | 88 => 38 | 89 => 39 | 90 => 40 | 91 => 41 | 92 => 42 | 68 => 43 | 96 => 44 | n => n, fun | 22 => 23 | 23 => 2 | 3 => 3 | 51 => 58 | 0 => 0 | 67 => 69 | 69 => 71 | 4 => 4 | 61 => 61 | 60 => 60 | 44 => 66 | 5 => 5 | 9 => 9 | 75 => 72 | 79 => 76 | 83 => 79 | 84 => 80 | n => n, fun | n => n⟩
theorem Try.sortL : Go.Proofs.SlLaysN.n53 Try.prog Try.sortL_ren := {
  mixed := by kernel_rfl
  f53 := ⟨Try.f17.name, by decide, Try.func17.trans (congrArg some (by kernel_rfl))⟩
  f59 := ⟨Try.f32.name, by decide, Try.func32.trans (congrArg some (by kernel_rfl))⟩
  f63 := ⟨Try.f23.name, by decide, Try.func23.trans (congrArg some (by kernel_rfl))⟩
  f64 := Try.func24.trans (congrArg some (by kernel_rfl))
  f68 := ⟨Try.f43.name, by decide, Try.func43.trans (congrArg some (by kernel_rfl))⟩
  f70 := ⟨Try.f26.name, by decide, Try.func26.trans (congrArg some (by kernel_rfl))⟩
  f71 := ⟨Try.f27.name, by decide, Try.func27.trans (congrArg some (by kernel_rfl))⟩
  f72 := ⟨Try.f28.name, by decide, Try.func28.trans (congrArg some (by kernel_rfl))⟩
  f73 := ⟨Try.f29.name, by decide, Try.func29.trans (congrArg some (by kernel_rfl))⟩
  f74 := ⟨Try.f30.name, by decide, Try.func30.trans (congrArg some (by kernel_rfl))⟩
  f75 := ⟨Try.f31.name, by decide, Try.func31.trans (congrArg some (by kernel_rfl))⟩
  f76 := ⟨Try.f33.name, by decide, Try.func33.trans (congrArg some (by kernel_rfl))⟩
  f77 := ⟨Try.f34.name, by decide, Try.func34.trans (congrArg some (by kernel_rfl))⟩
  f78 := Try.func35.trans (congrArg some (by kernel_rfl))
  f79 := Try.func36.trans (congrArg some (by kernel_rfl))
  f88 := ⟨Try.f38.name, by decide, Try.func38.trans (congrArg some (by kernel_rfl))⟩
  f89 := Try.func39.trans (congrArg some (by kernel_rfl))
  f90 := Try.func40.trans (congrArg some (by kernel_rfl))
  f91 := ⟨Try.f41.name, by decide, Try.func41.trans (congrArg some (by kernel_rfl))⟩
  f92 := ⟨Try.f42.name, by decide, Try.func42.trans (congrArg some (by kernel_rfl))⟩
  f96 := ⟨Try.f44.name, by decide, Try.func44.trans (congrArg some (by kernel_rfl))⟩
  t0 := Try.underlying0
  a0 := Try.isAgg0
  z0 := Try.sizeOf0
  v0 := Try.zeroValue0
  t3 := Try.underlying3
  a3 := Try.isAgg3
  z3 := Try.sizeOf3
  v3 := Try.zeroValue3
  t4 := Try.underlying4
  a4 := Try.isAgg4
  z4 := Try.sizeOf4
  v4 := Try.zeroValue4
  t5 := Try.underlying5
  a5 := Try.isAgg5
  z5 := Try.sizeOf5
  v5 := Try.zeroValue5
  t9 := Try.underlying9
  a9 := Try.isAgg9
  z9 := Try.sizeOf9
  v9 := Try.zeroValue9
  t22 := Try.underlying23
  a22 := Try.isAgg23
  z22 := Try.sizeOf23
  v22 := Try.zeroValue23
  t23 := Try.underlying2
  a23 := Try.isAgg2
  z23 := Try.sizeOf2
  v23 := Try.zeroValue2
  t44 := Try.underlying66
  a44 := Try.isAgg66
  z44 := Try.sizeOf66
  v44 := Try.zeroValue66
  t51 := Try.underlying58
  a51 := Try.isAgg58
  z51 := Try.sizeOf58
  v51 := Try.zeroValue58
  t60 := Try.underlying60
  a60 := Try.isAgg60
  z60 := Try.sizeOf60
  v60 := Try.zeroValue60
  t61 := Try.underlying61
  a61 := Try.isAgg61
  z61 := Try.sizeOf61
  v61 := Try.zeroValue61
  t67 := Try.underlying69
  a67 := Try.isAgg69
  z67 := Try.sizeOf69
  v67 := Try.zeroValue69
  t69 := Try.underlying71
  a69 := Try.isAgg71
  z69 := Try.sizeOf71
  v69 := Try.zeroValue71
  t75 := Try.underlying72
  a75 := Try.isAgg72
  z75 := Try.sizeOf72
  v75 := Try.zeroValue72
  t79 := Try.underlying76
  a79 := Try.isAgg76
  z79 := Try.sizeOf76
  v79 := Try.zeroValue76
  t83 := Try.underlying79
  a83 := Try.isAgg79
  z83 := Try.sizeOf79
  v83 := Try.zeroValue79
  t84 := Try.underlying80
  a84 := Try.isAgg80
  z84 := Try.sizeOf80
  v84 := Try.zeroValue80 }

def srt (zs : List Int) : List Int := zs.mergeSort fun x y => decide (x ≤ y)
theorem srt_perm (zs : List Int) : (srt zs).Perm zs := List.mergeSort_perm _ _
theorem srt_ris (zs : List Int) : Ris (srt zs) := by
  have := List.pairwise_mergeSort (le := fun (x y : Int) => decide (x ≤ y)) (fun a b c h1 h2 => by simp at *; omega) (fun a b => by simp; omega) zs
  exact this.imp fun h => by simpa using h
theorem srt_len (zs : List Int) : (srt zs).length = zs.length := (srt_perm zs).length_eq
theorem sort_any (s : Value) (zs : List Int) (w : World) (ho : w.ownsRow 0 2 1 s zs.length (ints zs)) (hl : zs.length ≤ 1048576) :
    Calls Try.prog 17 #[s] w fun e w' => e = .returned (.tuple #[]) ∧ w'.ownsRow 0 2 1 s zs.length (ints (srt zs)) ∧ w.grownBy w' s.ownBlock := by
  rcases ho.2 with ⟨rfl, h0⟩ | ⟨g, cap, cur, rfl, hb, hh, h3, h4, h5, h6⟩
  · have : zs = [] := List.eq_nil_of_length_eq_zero h0
    subst this
    refine (AnyG.slices_Sort_int_none Try.sortL none 0 w).mono ?_
    rintro e w' ⟨rfl, rfl⟩
    refine ⟨rfl, ?_, ⟨rfl, rfl, rfl, Nat.le_refl _, fun _ _ _ => rfl⟩⟩
    rw [show srt [] = [] from by simp [srt]]; exact ho
  · have hg : g < w.heap.size := (Array.getElem?_eq_some_iff.1 hh).1
    have hH : Go.Sort.Holds (Value.int .i64) w g 0 zs.toArray := fun j hj => by
      have hj' : j < zs.length := by simpa using hj
      have hx : zs[j]? = some zs.toArray[j]! := by
        rw [List.getElem?_eq_getElem hj', getElem!_pos zs.toArray j hj]; simp
      rw [Nat.zero_add]
      exact ⟨own_cell ho (i := j) (by rw [ints, List.getElem?_map, hx]; rfl), own_frozen ho j⟩
    refine (AnyG.slices_Sort_int Try.sortL g 0 cap zs w hH hg (by omega)).mono ?_
    rintro e w' ⟨rfl, n, os, rfl⟩
    have hblk : ∀ k, k < w.heap.size → (grow (putRow (Value.int .i64) (Go.Sort.ahead w n) g 0 (srt zs).toArray) os).heap[k]? = (putRow (Value.int .i64) w g 0 (srt zs).toArray).heap[k]? := fun k hk => by
      show ((putRow (Value.int .i64) (Go.Sort.ahead w n) g 0 (srt zs).toArray).heap ++ os)[k]? = _
      rw [Array.getElem?_append_left (by simpa [Go.Sort.ahead] using hk)]
      rfl
    refine ⟨rfl, ⟨by rw [ints, List.length_map, srt_len, Nat.mul_one], .inr ⟨g, cap, putCells (Value.int .i64) 0 (srt zs).toArray cur, rfl, hb, ?_, h3, h4, by simp [putCells, h5], ?_⟩⟩, ⟨rfl, rfl, rfl, ?_, fun k hk hne => ?_⟩⟩
    · rw [show (zs.mergeSort fun x y => decide (x ≤ y)) = srt zs from rfl, hblk g hg]
      simp [putRow, mapBlock, Array.getElem?_modify, hh, onCells]
    · rw [Nat.mul_one]
      apply List.ext_getElem?
      intro k
      rw [List.getElem?_take]
      by_cases hk : k < zs.length
      · have hkc : k < cur.size := by omega
        have hks : k < (srt zs).length := by rw [srt_len]; exact hk
        rw [if_pos hk]
        simp [putCells, ints, hkc, hks, List.getElem?_eq_getElem]
      · rw [if_neg hk, List.getElem?_eq_none (by rw [ints, List.length_map, srt_len]; omega)]
    · show w.heap.size ≤ ((putRow (Value.int .i64) (Go.Sort.ahead w n) g 0 (srt zs).toArray).heap ++ os).size
      rw [Array.size_append, size_putRow]
      exact Nat.le_add_right _ _
    · rw [show (zs.mergeSort fun x y => decide (x ≤ y)) = srt zs from rfl, hblk k hk]
      have hne' : g ≠ k := fun e => hne (by rw [e]; rfl)
      simp [putRow, mapBlock, Array.getElem?_modify, hne']
end Go.Proofs.Ytmgnndbcbalafaa

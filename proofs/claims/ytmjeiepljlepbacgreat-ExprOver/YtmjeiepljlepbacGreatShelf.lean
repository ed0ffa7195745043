import Derived.Test.YtmjeiepljlepbacGreatRmJ
import Derived.Lib.SlicesCompact
import Derived.Shelf.Sort.Plain
import Derived.Shelf.Slices.In.SortNone
import Derived.Shelf.Slices.CompactI
import Derived.Ground.NamesProg
import Derived.Ground.Names2Prog
import Derived.Test.YtmjeiepljlepbacGreatProg
import Derived.Sort.OwnSortedInts
import Derived.Lib.OwnBridge
import Derived.Test.YtmjeiepljlepbacGreatExO
set_option linter.unusedSimpArgs false
set_option linter.unusedVariables false
set_option maxRecDepth 100000
namespace Go.Proofs.YtmjeiepljlepbacGreat
open Go.RowKit Go.Sort

/-- What Compact leaves of numbers that rise rises, and is the same numbers. -/
theorem comp_upto (d : Array Int) (h : ∀ i j, i ≤ j → j < d.size → d[i]! ≤ d[j]!) : ∀ m, m ≤ d.size → (Lib.compactUpTo d m).Pairwise (· < ·) ∧ ∀ x, x ∈ Lib.compactUpTo d m ↔ ∃ i, i < m ∧ d[i]! = x
  | 0, _ => ⟨by show List.Pairwise _ []; exact .nil, fun x => ⟨fun hx => (by cases hx), fun ⟨i, hi, _⟩ => absurd hi (by omega)⟩⟩
  | m + 1, hm => by
    obtain ⟨h1, h2⟩ := comp_upto d h m (by omega)
    rw [Lib.compactUpTo_succ]
    cases hk : Lib.keeps d m with
    | true =>
      rw [if_pos rfl]
      have hne : m = 0 ∨ d[m]! ≠ d[m - 1]! := by simpa [Lib.keeps] using hk
      refine ⟨List.pairwise_append.2 ⟨h1, List.pairwise_singleton _ _, fun x hx y hy => ?_⟩, fun x => ⟨fun hx => ?_, fun ⟨i, hi, e⟩ => ?_⟩⟩
      · rw [List.mem_singleton] at hy
        subst hy
        obtain ⟨i, hi, rfl⟩ := (h2 x).1 hx
        have a1 := h i (m - 1) (by omega) (by omega)
        have a2 := h (m - 1) m (by omega) (by omega)
        have : d[m]! ≠ d[m - 1]! := hne.resolve_left (by omega)
        omega
      · rcases List.mem_append.1 hx with hx | hx
        · obtain ⟨i, hi, e⟩ := (h2 x).1 hx
          exact ⟨i, by omega, e⟩
        · rw [List.mem_singleton] at hx
          exact ⟨m, by omega, hx.symm⟩
      · by_cases hm' : i = m
        · subst hm'
          exact List.mem_append.2 (.inr (by rw [e]; exact List.mem_singleton.2 rfl))
        · exact List.mem_append.2 (.inl ((h2 x).2 ⟨i, by omega, e⟩))
    | false =>
      rw [if_neg (by decide), List.append_nil]
      have hne : m ≠ 0 ∧ d[m]! = d[m - 1]! := by
        have : ¬ (m = 0 ∨ d[m]! ≠ d[m - 1]!) := by simpa [Lib.keeps] using hk
        refine ⟨fun h => this (.inl h), ?_⟩
        by_cases e : d[m]! = d[m - 1]!
        · exact e
        · exact absurd (.inr e) this
      refine ⟨h1, fun x => ⟨fun hx => ?_, fun ⟨i, hi, e⟩ => ?_⟩⟩
      · obtain ⟨i, hi, e⟩ := (h2 x).1 hx
        exact ⟨i, by omega, e⟩
      · by_cases hm' : i = m
        · subst hm'
          exact (h2 x).2 ⟨i - 1, by omega, by rw [← e, hne.2]⟩
        · exact (h2 x).2 ⟨i, by omega, e⟩
theorem comp_len (d : Array Int) : ∀ m, (Lib.compactUpTo d m).length ≤ m
  | 0 => Nat.le_refl _
  | m + 1 => by
    have := comp_len d m
    rw [Lib.compactUpTo_succ, List.length_append]
    cases Lib.keeps d m <;> simp <;> omega
/-- The numbers of a list, each once, as they rise. -/
def uniqI (l : List Int) : List Int := Lib.compact (l.mergeSort fun x y => decide (x ≤ y))
theorem uniq_sd (l : List Int) : Sd (uniqI l) l := by
  have hp := List.mergeSort_perm l fun x y => decide (x ≤ y)
  have hs : (l.mergeSort fun x y => decide (x ≤ y)).Pairwise (fun x y => decide (x ≤ y) = true) := List.pairwise_mergeSort (fun a b c h1 h2 => by simp at *; omega) (fun a b => by simp; omega) l
  unfold uniqI
  obtain ⟨s, hse⟩ : ∃ s, s = l.mergeSort fun x y => decide (x ≤ y) := ⟨_, rfl⟩
  rw [← hse] at hp hs ⊢
  have hle : ∀ i j, i ≤ j → j < s.toArray.size → s.toArray[i]! ≤ s.toArray[j]! := by
    intro i j hij hj
    have hj' : j < s.length := by simpa using hj
    have hi' : i < s.length := by omega
    simp only [List.getElem!_toArray]
    rw [getElem!_pos s i hi', getElem!_pos s j hj']
    by_cases e : i = j
    · subst e; exact Int.le_refl _
    · have := List.pairwise_iff_getElem.1 hs i j hi' hj' (by omega)
      simpa using this
  obtain ⟨h1, h2⟩ := comp_upto s.toArray hle s.length (by simp)
  refine ⟨h1, fun x => ?_, ?_⟩
  · rw [← hp.mem_iff]
    refine (h2 x).trans ⟨fun ⟨i, hi, e⟩ => ?_, fun hx => ?_⟩
    · simp only [List.getElem!_toArray] at e
      rw [getElem!_pos s i hi] at e
      rw [← e]; exact List.getElem_mem _
    · obtain ⟨i, hi, e⟩ := List.getElem_of_mem hx
      refine ⟨i, hi, ?_⟩
      simp only [List.getElem!_toArray]
      rw [getElem!_pos s i hi, e]
  · have := comp_len s.toArray s.length
    rw [← hp.length_eq]
    exact this
theorem rises_one : ∀ (l m : List Int), l.Pairwise (· < ·) → m.Pairwise (· < ·) → (∀ x, x ∈ l ↔ x ∈ m) → l = m
  | [], [], _, _, _ => rfl
  | [], y :: m, _, _, h => absurd ((h y).2 (by simp)) (by simp)
  | x :: l, [], _, _, h => absurd ((h x).1 (by simp)) (by simp)
  | x :: l, y :: m, h1, h2, h => by
    rw [List.pairwise_cons] at h1 h2
    have hxy : x = y := by
      rcases List.mem_cons.1 ((h x).1 (by simp)) with e | hx
      · exact e
      · rcases List.mem_cons.1 ((h y).2 (by simp)) with e | hy
        · exact e.symm
        · have a1 := h2.1 x hx
          have a2 := h1.1 y hy
          omega
    subst hxy
    rw [rises_one l m h1.2 h2.2 fun z => ⟨fun hz => ?_, fun hz => ?_⟩]
    · rcases List.mem_cons.1 ((h z).1 (by simp [hz])) with e | hz'
      · subst e; exact absurd (h1.1 z hz) (by omega)
      · exact hz'
    · rcases List.mem_cons.1 ((h z).2 (by simp [hz])) with e | hz'
      · subst e; exact absurd (h2.1 z hz) (by omega)
      · exact hz'
theorem sd_uniq {L S : List Int} (h : Sd L S) : L = uniqI S :=
  rises_one L (uniqI S) h.1 (uniq_sd S).1 fun x => (h.2.1 x).trans ((uniq_sd S).2.1 x).symm
end Go.Proofs.YtmjeiepljlepbacGreat
/-
  DERIVED: THE SHELF's CONTRACTS AT THIS DUMP, IN PLAIN WORDS (tools/lay-plain.mjs out of 'YtmjeiepljlepbacGreatShelf.lean', which tools/lay-shelf.mjs wrote): THE SAME DECLARATIONS UNDER THE SAME NAMES: 'import', 'namespace', 'open', 'def', 'theorem' AND NOTHING ELSE: no command of the shelf's: FOR A HAND-IN. Each laying: the table of numbers ('.._ren') and one theorem, a field a fact of the dump's own or the kernel's comparison; each contract: ONE APPLICATION.
-/
namespace Go.Proofs
open Go.Shelf
def Tryz.sortI_ren : Go.Shelf.Ren := ⟨fun | 189 => 75 | 125 => 113 | 257 => 112 | 128 => 170 | 129 => 171 | 294 => 161 | 295 => 162 | 296 => 163 | 297 => 164 | 298 => 165 | 299 => 166 | 216 => 167 | 300 => 168 | 301 => 169 | 328 => 207 | 329 => 208 | 330 => 209 | 331 => 210 | 332 => 211 | 215 => 212 | 343 => 228 | n => n, fun | 28 => 23 | 3 => 3 | 46 => 137 | 0 => 0 | 51 => 175 | 53 => 144 | 4 => 4 | 183 => 168 | 182 => 167 | 131 => 102 | 5 => 5 | 9 => 9 | 218 => 195 | 222 => 198 | 228 => 211 | 229 => 60 | n => n, fun | n => n⟩
theorem Tryz.sortI : Go.Proofs.Lays.n189 Tryz.prog Tryz.sortI_ren := {
  mixed := by kernel_rfl
  f125 := Tryz.func113.trans (congrArg some (by kernel_rfl))
  f128 := Tryz.func170.trans (congrArg some (by kernel_rfl))
  f129 := Tryz.func171.trans (congrArg some (by kernel_rfl))
  f189 := Tryz.func75.trans (congrArg some (by kernel_rfl))
  f215 := Tryz.func212.trans (congrArg some (by kernel_rfl))
  f216 := Tryz.func167.trans (congrArg some (by kernel_rfl))
  f257 := Tryz.func112.trans (congrArg some (by kernel_rfl))
  f294 := Tryz.func161.trans (congrArg some (by kernel_rfl))
  f295 := Tryz.func162.trans (congrArg some (by kernel_rfl))
  f296 := Tryz.func163.trans (congrArg some (by kernel_rfl))
  f297 := Tryz.func164.trans (congrArg some (by kernel_rfl))
  f298 := Tryz.func165.trans (congrArg some (by kernel_rfl))
  f299 := Tryz.func166.trans (congrArg some (by kernel_rfl))
  f300 := Tryz.func168.trans (congrArg some (by kernel_rfl))
  f301 := Tryz.func169.trans (congrArg some (by kernel_rfl))
  f328 := Tryz.func207.trans (congrArg some (by kernel_rfl))
  f329 := Tryz.func208.trans (congrArg some (by kernel_rfl))
  f330 := Tryz.func209.trans (congrArg some (by kernel_rfl))
  f331 := Tryz.func210.trans (congrArg some (by kernel_rfl))
  f332 := Tryz.func211.trans (congrArg some (by kernel_rfl))
  f343 := Tryz.func228.trans (congrArg some (by kernel_rfl))
  t0 := Tryz.underlying0
  a0 := Tryz.isAgg0
  z0 := Tryz.sizeOf0
  v0 := Tryz.zeroValue0
  t3 := Tryz.underlying3
  a3 := Tryz.isAgg3
  z3 := Tryz.sizeOf3
  v3 := Tryz.zeroValue3
  t4 := Tryz.underlying4
  a4 := Tryz.isAgg4
  z4 := Tryz.sizeOf4
  v4 := Tryz.zeroValue4
  t5 := Tryz.underlying5
  a5 := Tryz.isAgg5
  z5 := Tryz.sizeOf5
  v5 := Tryz.zeroValue5
  t9 := Tryz.underlying9
  a9 := Tryz.isAgg9
  z9 := Tryz.sizeOf9
  v9 := Tryz.zeroValue9
  t28 := Tryz.underlying23
  a28 := Tryz.isAgg23
  z28 := Tryz.sizeOf23
  v28 := Tryz.zeroValue23
  t46 := Tryz.underlying137
  a46 := Tryz.isAgg137
  z46 := Tryz.sizeOf137
  v46 := Tryz.zeroValue137
  t51 := Tryz.underlying175
  a51 := Tryz.isAgg175
  z51 := Tryz.sizeOf175
  v51 := Tryz.zeroValue175
  t53 := Tryz.underlying144
  a53 := Tryz.isAgg144
  z53 := Tryz.sizeOf144
  v53 := Tryz.zeroValue144
  t131 := Tryz.underlying102
  a131 := Tryz.isAgg102
  z131 := Tryz.sizeOf102
  v131 := Tryz.zeroValue102
  t182 := Tryz.underlying167
  a182 := Tryz.isAgg167
  z182 := Tryz.sizeOf167
  v182 := Tryz.zeroValue167
  t183 := Tryz.underlying168
  a183 := Tryz.isAgg168
  z183 := Tryz.sizeOf168
  v183 := Tryz.zeroValue168
  t218 := Tryz.underlying195
  a218 := Tryz.isAgg195
  z218 := Tryz.sizeOf195
  v218 := Tryz.zeroValue195
  t222 := Tryz.underlying198
  a222 := Tryz.isAgg198
  z222 := Tryz.sizeOf198
  v222 := Tryz.zeroValue198
  t228 := Tryz.underlying211
  a228 := Tryz.isAgg211
  z228 := Tryz.sizeOf211
  v228 := Tryz.zeroValue211
  t229 := Tryz.underlying60
  a229 := Tryz.isAgg60
  z229 := Tryz.sizeOf60
  v229 := Tryz.zeroValue60 }
def Tryz.compI_ren : Go.Shelf.Ren := ⟨fun | 20 => 76 | n => n, fun | 22 => 23 | 3 => 3 | 4 => 4 | 0 => 0 | n => n, fun | n => n⟩
theorem Tryz.compI : Go.Proofs.Lays2.n20 Tryz.prog Tryz.compI_ren := {
  mixed := by kernel_rfl
  f20 := Tryz.func76.trans (congrArg some (by kernel_rfl))
  t0 := Tryz.underlying0
  a0 := Tryz.isAgg0
  z0 := Tryz.sizeOf0
  v0 := Tryz.zeroValue0
  t3 := Tryz.underlying3
  a3 := Tryz.isAgg3
  z3 := Tryz.sizeOf3
  v3 := Tryz.zeroValue3
  t4 := Tryz.underlying4
  a4 := Tryz.isAgg4
  z4 := Tryz.sizeOf4
  v4 := Tryz.zeroValue4
  t22 := Tryz.underlying23
  a22 := Tryz.isAgg23
  z22 := Tryz.sizeOf23
  v22 := Tryz.zeroValue23
  i3 := by kernel_rfl }
end Go.Proofs
set_option linter.unusedSimpArgs false
set_option linter.unusedVariables false
set_option maxRecDepth 100000
namespace Go.Proofs.YtmjeiepljlepbacGreat
open Go.RowKit Go.Sort Go.Shelf

/-- slices.Sort (75) of numbers of the call's own. -/
theorem isort_any (base : Nat) (xs : List Int) (v : Value) (w : World) (hl : xs.length ≤ 1048576) (hown : OwnI w base v xs) (hb : base ≤ w.heap.size) :
    Calls Tryz.prog 75 #[v] w fun e w' => e = .returned (.tuple #[]) ∧ OwnI w' base v (xs.mergeSort fun x y => decide (x ≤ y)) ∧ Below base w w' := by
  have hml : (xs.mergeSort fun x y => decide (x ≤ y)).length = xs.length := List.length_mergeSort xs
  rcases hown.2 with ⟨rfl, h0⟩ | ⟨g, cap, cur, rfl, hge, hh, hnc, hcm, hcs, htake⟩
  · have hx : xs = [] := List.eq_nil_of_length_eq_zero h0
    subst hx
    have hcon := Any.slices_Sort_int_none Tryz.sortI none 0 w
    change Calls Tryz.prog 75 _ _ _ at hcon
    refine hcon.mono ?_
    rintro e w' ⟨rfl, rfl⟩
    exact ⟨rfl, by rw [List.mergeSort_nil]; exact hown, Below.refl _ _⟩
  · obtain ⟨g', cap', e', _, hgl, _, _, _, hH⟩ := Lib.holds_of_ownsRow hown (by simp)
    injection e' with e1 _ e3
    injection e1 with e1
    injection e1 with e1
    subst e1 e3
    have hcon := Any.slices_Sort_int Tryz.sortI g 0 cap xs w hH hgl (by omega)
    change Calls Tryz.prog 75 _ _ _ at hcon
    refine hcon.mono ?_
    rintro e w' ⟨rfl, n, os, rfl⟩
    refine ⟨rfl, ?_, (Below.refl base w).grown (grownBy_sortedI _) hb fun j hj => by cases hj; exact hge⟩
    unfold OwnI
    rw [hml]
    exact ownsRow_sortedI hml hge hh hnc hcm hcs
/-- slices.Compact (76), likewise. -/
theorem icompact_any (base : Nat) (xs : List Int) (v : Value) (w : World) (hl : xs.length ≤ 1048576) (hown : OwnI w base v xs) (hb : base ≤ w.heap.size) :
    Calls Tryz.prog 76 #[v] w fun e w' => ∃ v', e = .returned v' ∧ OwnI w' base v' (Lib.compact xs) ∧ Below base w w' := by
  rcases hown.2 with ⟨rfl, h0⟩ | ⟨g, cap, cur, rfl, hge, hh, hnc, hcm, hcs, htake⟩
  · have hx : xs = [] := List.eq_nil_of_length_eq_zero h0
    subst hx
    have hcon := Any.slices_Compact_int_empty Tryz.compI none 0 w
    change Calls Tryz.prog 76 _ _ _ at hcon
    refine hcon.mono ?_
    rintro e w' ⟨rfl, rfl⟩
    exact ⟨_, rfl, hown, Below.refl _ _⟩
  · obtain ⟨g', cap', e', _, hgl, _, _, _, hH⟩ := Lib.holds_of_ownsRow hown (by simp)
    injection e' with e1 _ e3
    injection e1 with e1
    injection e1 with e1
    subst e1 e3
    have hcon := Any.slices_Compact_int Tryz.compI g 0 cap xs w hH (by omega) hnc
    change Calls Tryz.prog 76 _ _ _ at hcon
    refine hcon.mono ?_
    rintro e w' ⟨rfl, q, rfl⟩
    have hle := Lib.compact_length_le xs
    refine ⟨_, rfl, ?_, Lib.below_putRow (Below.refl _ _) hge⟩
    have hc := Lib.ownsRow_putRow (q := q) (k := (Lib.compact xs).length) (ys := Lib.compact xs ++ List.replicate (xs.length - (Lib.compact xs).length) 0) hown (by simp; omega) (by omega)
    rw [List.take_left] at hc
    exact hc
set_option maxHeartbeats 1000000 in
/-- Columns (33). -/
theorem cols_any (e : Ex) (hf : e.fin) (a : Option Addr) (c : Nat) (w : World) (ha : Ex.all w a e.args) :
    Calls Tryz.prog 33 #[e.val a c] w fun r w' => ∃ v, r = .returned v ∧ OwnI w' w.heap.size v (if builtE e then uniqI (colsE e) else []) ∧ Below w.heap.size w w' := by
  have HB := hide (fun (W : World) (hW : Below w.heap.size w W) => built_any e hf a c W (Ex.all_later _ ha hW))
  have HC := hide (fun (hb : builtE e = true) (W : World) (hW : Below w.heap.size w W) => columns_all e.size e (Nat.le_refl _) (built_good hb) hf (built_bounds hb).1 a c W (Ex.all_later _ ha hW))
  have HB0 := hide (below_alloc (Below.refl _ w) (.cells #[.int .i64 e.op, .int .i64 e.n, .int .i64 e.v.k, .int .i64 e.v.n, .string e.v.s, .slice a e.args.length c] 59))
  have H6 := hide (Six.new w e a c)
  have hsz : builtE e = true → (colsE e).length ≤ 400 := fun hb => by have h1 := cols_size e; have h2 := (built_bounds hb).1; omega
  rw [Ex.val_open] at HB HC ⊢
  clear ha
  unfold uniqI
  cases hb : builtE e with
  | false =>
    rw [hb] at HB
    clear hb HC hsz
    go_enter Tryz.func33, Tryz.ntmps33
    go_wp2_with (go_at_call 64; refine (unhide HB _ (unhide HB0)).mono ?_; rintro r w1 ⟨rfl, hb1⟩)
    go_ret
    exact ⟨_, rfl, own_nil _ _, below_step (unhide HB0) hb1⟩
  | true =>
    rw [hb] at HB
    have HC := hide (unhide HC hb)
    have HZ := hide (hsz hb)
    clear hb hsz
    generalize colsE e = S at *
    go_enter Tryz.func33, Tryz.ntmps33
    go_wp2_with (first
      | (go_at_call 76; refine (unhide HX4).mono ?_; rintro r w4 ⟨v4, rfl, hO4, hb4⟩)
      | (go_at_call 75; refine (unhide HX3).mono ?_; rintro r w3 ⟨rfl, hO3, hb3⟩; have HX4 := hide (icompact_any w.heap.size _ v2 w3 (by rw [List.length_mergeSort]; have := unhide HZ; omega) hO3 (hB2.trans hb3).size); have hB3 := hB2.trans hb3)
      | (go_at_call 74; refine (unhide HC w1 hB1).mono ?_; rintro r w2 ⟨v2, rfl, hO2, hb2⟩; have hB2 := below_step hB1 hb2; have HX3 := hide (isort_any w.heap.size _ v2 w2 (by have := unhide HZ; omega) (hO2.base_le hB1.size) hB2.size))
      | (go_at_call 64; refine (unhide HB _ (unhide HB0)).mono ?_; rintro r w1 ⟨rfl, hb1⟩; obtain ⟨b0, b1, b2, b3, b4, b5⟩ := (unhide H6).later hb1; have hB1 := below_step (unhide HB0) hb1))
    go_ret
    exact ⟨_, rfl, hO4, hB3.trans hb4⟩
end Go.Proofs.YtmjeiepljlepbacGreat
set_option linter.unusedSimpArgs false
set_option linter.unusedVariables false
set_option maxRecDepth 100000
namespace Go.Proofs.YtmjeiepljlepbacGreat
open Go.ChangeShapes Go.WideShapes Go.ChangeAt Go.RowKit Go.Joins Go.Deep

theorem ownT : ownKnob Tryz.prog.godebug = none := by kernel_rfl
theorem laidT : laidOutB Tryz.prog = true := by kernel_rfl
theorem bytes3 : Tryz.prog.bytesOf 3 = 8 := by kernel_rfl
theorem bytes23 : Tryz.prog.bytesOf 38 = 32 := by kernel_rfl
section
variable {H : Type} {enc : TypeId × Value → H} {w : World} {base : Nat} {spare : Nat → Bool} {held : Bool}
theorem addr_lit (b o n : Nat) : (⟨b, o, none⟩ : Addr).add n = ⟨b, o + n, none⟩ := by
  by_cases h : n = 0 <;> simp [Addr.add, h]
set_option maxRecDepth 100000 in
/-- A list of numbers that came in, laid open. -/
theorem open_ints {r : Reach} {b0 : Nat} {v : Value} {d : DataW H} {p : List MemPlace} (hv : Value.okWide Tryz.prog w r b0 23 v) (h : DataW.Trod enc Tryz.prog w base spare held 23 v d p) (hw : ∀ n ∈ d.weights Tryz.prog (23), n ≤ reachBytes) :
    ∃ (a : Option Addr) (c : Nat) (xs : List Int), v = .slice a xs.length c ∧ IntsAt w a xs ∧ xs.length ≤ 140737488355328 := by
  obtain ⟨a0, len, cap, rfl⟩ := okWide_slice Tryz.underlying23 hv
  obtain ⟨fuel, hf⟩ := h
  rcases open_slice Tryz.underlying23 hf with ⟨hcs, hx⟩ | ⟨a, len', cap', m, n, D, Pl, hcs, hb, hl, hm, hmm, hx, hel⟩
  · simp [Value.cells] at hcs
    obtain ⟨rfl, rfl, rfl⟩ := hcs
    exact ⟨none, 0, [], rfl, .inl rfl, Nat.zero_le _⟩
  · simp [Value.cells] at hcs
    obtain ⟨rfl, rfl, rfl⟩ := hcs
    simp only [Prod.mk.injEq] at hx
    have hlm : len ≤ m := by rw [hmm]; split <;> omega
    have hbyt : len ≤ 140737488355328 := by
      have := hw ((((List.range len).map D).length + ((List.range (m - len)).map fun j => D (len + j)).length) * Tryz.prog.bytesOf 3) (by rw [hx.1]; simp [DataW.weights, Tryz.underlying23])
      rw [bytes3] at this
      have h2 := reachBytes_lt
      simp only [List.length_map, List.length_range] at this
      omega
    have hel2 : ∀ i, i < len → ∃ x : Int, w.cells? base (a.add (i * 1)) 1 = some [.int .i64 x] := by
      intro i hi
      obtain ⟨cs', h1, h2⟩ := hel i (by omega)
      rw [cells3] at h1
      obtain ⟨x, rfl, _⟩ := DataW.trod_int Tryz.underlying3 h2
      exact ⟨x, h1⟩
    obtain ⟨f, hfx⟩ := choose_lt (α := Int) (n := len) hel2
    have hlen : ((List.range len).map f).length = len := by simp
    refine ⟨some a, cap, (List.range len).map f, by rw [hlen], ?_, by rw [hlen]; exact hbyt⟩
    by_cases h0 : len = 0
    · left; subst h0; rfl
    · right
      obtain ⟨b, off, spot⟩ := a
      have hc0 := (World.cells?_some (hfx 0 (by omega))).2.2 0 (by omega)
      have hspot : spot = none := by simpa [Addr.add] using World.cell?_spot hc0
      subst hspot
      refine ⟨b, off, rfl, fun i x hx => ?_⟩
      obtain ⟨hi, rfl⟩ := List.getElem?_eq_some_iff.1 hx
      have hi' : i < len := by simpa using hi
      have e0 := (World.cells?_some (hfx i hi')).2.2 0 (by omega)
      rw [addr_lit, addr_lit] at e0
      simp only [List.getElem_map, List.getElem_range]
      simpa using e0
set_option maxRecDepth 100000 in
/-- A row that came in, laid open. -/
theorem open_row {r : Reach} {b0 : Nat} {v : Value} {d : DataW H} {p : List MemPlace} (hv : Value.okWide Tryz.prog w r b0 22 v) (h : DataW.Trod enc Tryz.prog w base spare held 22 v d p) (hw : ∀ n ∈ d.weights Tryz.prog (22), n ≤ reachBytes) :
    ∃ (a : Option Addr) (c : Nat) (xs : List Val), v = .slice a xs.length c ∧ RowAt w a xs ∧ (∀ x ∈ xs, VOk x) ∧ xs.length ≤ 4398046511104 ∧ (a = none → xs = [] ∧ c = 0) := by
  obtain ⟨a0, len, cap, rfl⟩ := okWide_slice Tryz.underlying22 hv
  obtain ⟨fuel, hf⟩ := h
  rcases open_slice Tryz.underlying22 hf with ⟨hcs, hx⟩ | ⟨a, len', cap', m, n, D, Pl, hcs, hb, hl, hm, hmm, hx, hel⟩
  · simp [Value.cells] at hcs
    obtain ⟨rfl, rfl, rfl⟩ := hcs
    exact ⟨none, 0, [], rfl, .inl rfl, by simp, Nat.zero_le _, fun _ => ⟨rfl, rfl⟩⟩
  · simp [Value.cells] at hcs
    obtain ⟨rfl, rfl, rfl⟩ := hcs
    simp only [Prod.mk.injEq] at hx
    have hlm : len ≤ m := by rw [hmm]; split <;> omega
    have hbyt : len ≤ 4398046511104 := by
      have := hw ((((List.range len).map D).length + ((List.range (m - len)).map fun j => D (len + j)).length) * Tryz.prog.bytesOf 38) (by rw [hx.1]; simp [DataW.weights, Tryz.underlying22])
      rw [bytes23] at this
      have h2 := reachBytes_lt
      simp only [List.length_map, List.length_range] at this
      omega
    have hel2 : ∀ i, i < len → ∃ x : Val, w.cells? base (a.add (i * 3)) 3 = some [.int .i64 x.k, .int .i64 x.n, .string x.s] ∧ VOk x := by
      intro i hi
      obtain ⟨cs, g1, g2⟩ := hel i (by omega)
      rw [cells23] at g1
      have hwi : ∀ n ∈ (D i).weights Tryz.prog (38), n ≤ reachBytes := fun n hn => hw n (by
        rw [hx.1]
        simp only [DataW.weights, Tryz.underlying22, List.mem_cons, List.mem_append]
        exact .inr (.inl (weights_all (List.mem_map.2 ⟨i, List.mem_range.2 hi, rfl⟩) n hn)))
      obtain ⟨z0, z1, z2, n2, hz, hzl, h0, h1, h2⟩ := trod_struct3 Tryz.underlying38 g2
      rw [cells23] at hzl
      match cs, hzl with
      | [c0, c1, c2], _ =>
        simp only [cells3, cells2, cells9, List.drop_zero, List.take_succ_cons, List.take_zero, List.drop_succ_cons] at h0 h1 h2
        obtain ⟨vk, e2, r0, wk⟩ := DataW.trod_int Tryz.underlying3 h0
        obtain ⟨vn, e3, r1, wn⟩ := DataW.trod_int Tryz.underlying2 h1
        obtain ⟨vs, e4, r2, ws⟩ := DataW.trod_string Tryz.underlying9 h2
        simp only [List.cons.injEq, and_true] at e2 e3 e4
        subst e2 e3 e4
        have hD : D i = .agg [z0.1, z1.1, z2.1] := by simp only [Prod.mk.injEq] at hz; exact hz.1
        refine ⟨⟨vk, vn, vs⟩, g1, in64_of wn, ?_⟩
        have := hwi vs.data.toList.length (by rw [hD]; simp [DataW.weights, DataW.weightsEach, Tryz.underlying38, r2])
        have h2 := reachBytes_lt
        rw [Array.length_toList] at this
        have e : vs.data.size = vs.size := rfl
        show vs.size ≤ _
        omega
    have inst : Inhabited Val := ⟨Val.null⟩
    obtain ⟨f, hfx⟩ := choose_lt (α := Val) (n := len) hel2
    have hlen : ((List.range len).map f).length = len := by simp
    refine ⟨some a, cap, (List.range len).map f, by rw [hlen], ?_, ?_, by rw [hlen]; exact hbyt, fun h => by cases h⟩
    · by_cases h0 : len = 0
      · left; subst h0; rfl
      · right
        obtain ⟨b, off, spot⟩ := a
        have hc0 := (World.cells?_some (hfx 0 (by omega)).1).2.2 0 (by omega)
        have hspot : spot = none := by simpa [Addr.add] using World.cell?_spot hc0
        subst hspot
        refine ⟨b, off, rfl, fun i x hx => ?_⟩
        obtain ⟨hi, rfl⟩ := List.getElem?_eq_some_iff.1 hx
        have hi' : i < len := by simpa using hi
        have hc := (World.cells?_some (hfx i hi').1).2.2
        have e0 := hc 0 (by omega)
        have e1 := hc 1 (by omega)
        have e2 := hc 2 (by omega)
        rw [addr_lit, addr_lit] at e0 e1 e2
        simp only [List.getElem_map, List.getElem_range]
        exact ⟨by simpa using e0, by simpa using e1, by simpa using e2⟩
    · intro x hx
      obtain ⟨i, hi, rfl⟩ := List.mem_map.1 hx
      exact (hfx i (by simpa using hi)).2
end
end Go.Proofs.YtmjeiepljlepbacGreat

import Derived.Test.YtjnggnhgambmkaaGreatVecO
import Derived.Test.YtjnggnhgambmkaaGreatMmA
set_option linter.unusedSimpArgs false
set_option linter.unusedVariables false
namespace Go.Proofs.YtjnggnhgambmkaaGreat
open Go.RowKit Go.Sort

theorem below_drewNV {W0 w : World} (h : Below W0.heap.size W0 w) (n : Nat) : Below W0.heap.size W0 (World.drewN w n) := by
  induction n with
  | zero => exact h
  | succ n ih => exact ih.drew

/-- What 'At' answers. -/
def atI (X : Vc) (i : Int) : Val := if 0 ≤ i ∧ i < ((valsV X).length : Int) then (valsV X).getD i.toNat .null else .null
theorem atI_in {X : Vc} {i : Int} (h0 : 0 ≤ i) (h1 : i < ((valsV X).length : Int)) : goodB X = true ∧ i.toNat < X.nl.length ∧ atI X i = atV X i.toNat := by
  cases hg : goodB X
  · rw [vals_none hg] at h1; simp at h1; omega
  · have hl := vals_len hg
    have hi : i.toNat < X.nl.length := by omega
    refine ⟨rfl, hi, ?_⟩
    rw [atI, if_pos ⟨h0, h1⟩, List.getD_eq_getElem?_getD, vals_at hg hi]; rfl

theorem bv_facts {w w' : World} {a b c d : Value} (h : Below ((w.alloc (.cells #[a, b, c, d] 29)).alloc (.cells #[.int .i64 0, .int .i64 0, .string ⟨#[]⟩] 38)).heap.size ((w.alloc (.cells #[a, b, c, d] 29)).alloc (.cells #[.int .i64 0, .int .i64 0, .string ⟨#[]⟩] 38)) w') :
    w'.rowIs w.heap.size 29 4 (box4 a b c d) ∧ w'.rowIs (w.heap.size + 1) 38 3 (box3 Val.null) ∧ Below w.heap.size w w' := by
  refine ⟨rowIs_later ((box4_alloc w a b c d).alloc _) h, ?_, below_step (below_alloc (below_alloc (Below.refl _ _) _) _) h⟩
  have := rowIs_later (box3_alloc (w.alloc (.cells #[a, b, c, d] 29)) Val.null) h
  simpa using this

end Go.Proofs.YtjnggnhgambmkaaGreat
set_option linter.unusedSimpArgs false
set_option linter.unusedVariables false
set_option maxRecDepth 100000
namespace Go.Proofs.YtjnggnhgambmkaaGreat
open Go.RowKit Go.Sort

/-- append([]T{}, l...): a copy in new memory. -/
def CopyOk (st t sz : Nat) : Prop := ∀ (W : World) (m c : Nat) (a : Option Addr) (ys : List Value) (ty : TypeId), ys.length = m * sz → (m = 0 ∨ ∃ ad, a = some ad ∧ ∀ j u, ys[j]? = some u → W.cell? (ad.add j) = some u) → (∀ u ∈ ys, u.oneCell' = true) → (a = none → c = 0) → m ≤ 4194304 →
    ∃ T w', (Builtin.append_ #[st, st] ty #[.slice (some ⟨W.heap.size, 0, none⟩) 0 0, .slice a m c]).run Tryz.prog (W.alloc (.cells #[] t)) = .ok T w' ∧ w'.ownsRow W.heap.size t sz T m ys ∧ Below W.heap.size W w'
theorem copy_okB : CopyOk 25 4 1 := by
  intro W m c a ys ty hyl hc hone hn hl
  obtain ⟨i2, hi2, z20, z21, z22⟩ := info_parts Tryz.info4
  have hE : (W.alloc (.cells #[] 4)).ownsRow W.heap.size 4 1 (.slice (some ⟨W.heap.size, 0, none⟩) 0 0) 0 [] :=
    ⟨rfl, .inr ⟨W.heap.size, 0, #[], rfl, Nat.le_refl _, by show (W.heap.push _)[W.heap.size]? = _; rw [Array.getElem?_push_size], Nat.le_refl _, Nat.zero_le _, rfl, rfl⟩⟩
  have hb : Below W.heap.size W (W.alloc (.cells #[] 4)) := below_alloc (Below.refl _ _) _
  cases a with
  | none =>
    obtain rfl : m = 0 := by
      rcases hc with h | ⟨ad, h, _⟩
      · exact h
      · cases h
    obtain rfl : ys = [] := List.eq_nil_of_length_eq_zero (by omega)
    obtain rfl := hn rfl
    exact ⟨_, _, run_append_owned_none (P := Tryz.prog) _ W.heap.size 25 ty 4 i2 1 Tryz.underlying25 hi2 _ 0 [] hE, hE, hb⟩
  | some ad =>
    have hcells : ∀ j u, ys[j]? = some u → (W.alloc (.cells #[] 4)).cell? (ad.add j) = some u := by
      rcases hc with h | ⟨ad', h, h2⟩
      · obtain rfl : ys = [] := List.eq_nil_of_length_eq_zero (by simp [hyl, h])
        intro j u hu; simp at hu
      · injection h with h
        subst h
        exact fun j u hu => cell_later hb (h2 j u hu)
    obtain ⟨T, w', hr, h2, h3, _, h5⟩ := run_append_own_at (P := Tryz.prog) (w := W.alloc (.cells #[] 4)) W.heap.size 25 ty 4 i2 (.bool false) 1 1 Tryz.underlying25 hi2 z20 z21 z22 rfl (by decide) _ 0 [] hE ad m c ys hyl hcells hone (by unfold maxLen; omega) (by omega) hb.size
    rw [Nat.zero_add, List.nil_append] at h2
    refine ⟨T, w', hr, h2, ?_⟩
    refine ⟨h3.os.trans hb.os, h3.tape.trans hb.tape, h3.output.trans hb.output, Nat.le_trans hb.size h3.size, fun q hq => ?_⟩
    rw [h3.block q (Nat.lt_of_lt_of_le hq hb.size) (by simp [Value.ownBlock]; omega)]
    exact hb.block q hq
theorem copy_okI : CopyOk 23 3 1 := by
  intro W m c a ys ty hyl hc hone hn hl
  obtain ⟨i2, hi2, z20, z21, z22⟩ := info_parts Tryz.info3
  have hE : (W.alloc (.cells #[] 3)).ownsRow W.heap.size 3 1 (.slice (some ⟨W.heap.size, 0, none⟩) 0 0) 0 [] :=
    ⟨rfl, .inr ⟨W.heap.size, 0, #[], rfl, Nat.le_refl _, by show (W.heap.push _)[W.heap.size]? = _; rw [Array.getElem?_push_size], Nat.le_refl _, Nat.zero_le _, rfl, rfl⟩⟩
  have hb : Below W.heap.size W (W.alloc (.cells #[] 3)) := below_alloc (Below.refl _ _) _
  cases a with
  | none =>
    obtain rfl : m = 0 := by
      rcases hc with h | ⟨ad, h, _⟩
      · exact h
      · cases h
    obtain rfl : ys = [] := List.eq_nil_of_length_eq_zero (by omega)
    obtain rfl := hn rfl
    exact ⟨_, _, run_append_owned_none (P := Tryz.prog) _ W.heap.size 23 ty 3 i2 1 Tryz.underlying23 hi2 _ 0 [] hE, hE, hb⟩
  | some ad =>
    have hcells : ∀ j u, ys[j]? = some u → (W.alloc (.cells #[] 3)).cell? (ad.add j) = some u := by
      rcases hc with h | ⟨ad', h, h2⟩
      · obtain rfl : ys = [] := List.eq_nil_of_length_eq_zero (by simp [hyl, h])
        intro j u hu; simp at hu
      · injection h with h
        subst h
        exact fun j u hu => cell_later hb (h2 j u hu)
    obtain ⟨T, w', hr, h2, h3, _, h5⟩ := run_append_own_at (P := Tryz.prog) (w := W.alloc (.cells #[] 3)) W.heap.size 23 ty 3 i2 (.int .i64 0) 1 8 Tryz.underlying23 hi2 z20 z21 z22 rfl (by decide) _ 0 [] hE ad m c ys hyl hcells hone (by unfold maxLen; omega) (by omega) hb.size
    rw [Nat.zero_add, List.nil_append] at h2
    refine ⟨T, w', hr, h2, ?_⟩
    refine ⟨h3.os.trans hb.os, h3.tape.trans hb.tape, h3.output.trans hb.output, Nat.le_trans hb.size h3.size, fun q hq => ?_⟩
    rw [h3.block q (Nat.lt_of_lt_of_le hq hb.size) (by simp [Value.ownBlock]; omega)]
    exact hb.block q hq
theorem copy_okL : CopyOk 26 2 1 := by
  intro W m c a ys ty hyl hc hone hn hl
  obtain ⟨i2, hi2, z20, z21, z22⟩ := info_parts Tryz.info2
  have hE : (W.alloc (.cells #[] 2)).ownsRow W.heap.size 2 1 (.slice (some ⟨W.heap.size, 0, none⟩) 0 0) 0 [] :=
    ⟨rfl, .inr ⟨W.heap.size, 0, #[], rfl, Nat.le_refl _, by show (W.heap.push _)[W.heap.size]? = _; rw [Array.getElem?_push_size], Nat.le_refl _, Nat.zero_le _, rfl, rfl⟩⟩
  have hb : Below W.heap.size W (W.alloc (.cells #[] 2)) := below_alloc (Below.refl _ _) _
  cases a with
  | none =>
    obtain rfl : m = 0 := by
      rcases hc with h | ⟨ad, h, _⟩
      · exact h
      · cases h
    obtain rfl : ys = [] := List.eq_nil_of_length_eq_zero (by omega)
    obtain rfl := hn rfl
    exact ⟨_, _, run_append_owned_none (P := Tryz.prog) _ W.heap.size 26 ty 2 i2 1 Tryz.underlying26 hi2 _ 0 [] hE, hE, hb⟩
  | some ad =>
    have hcells : ∀ j u, ys[j]? = some u → (W.alloc (.cells #[] 2)).cell? (ad.add j) = some u := by
      rcases hc with h | ⟨ad', h, h2⟩
      · obtain rfl : ys = [] := List.eq_nil_of_length_eq_zero (by simp [hyl, h])
        intro j u hu; simp at hu
      · injection h with h
        subst h
        exact fun j u hu => cell_later hb (h2 j u hu)
    obtain ⟨T, w', hr, h2, h3, _, h5⟩ := run_append_own_at (P := Tryz.prog) (w := W.alloc (.cells #[] 2)) W.heap.size 26 ty 2 i2 (.int .i64 0) 1 8 Tryz.underlying26 hi2 z20 z21 z22 rfl (by decide) _ 0 [] hE ad m c ys hyl hcells hone (by unfold maxLen; omega) (by omega) hb.size
    rw [Nat.zero_add, List.nil_append] at h2
    refine ⟨T, w', hr, h2, ?_⟩
    refine ⟨h3.os.trans hb.os, h3.tape.trans hb.tape, h3.output.trans hb.output, Nat.le_trans hb.size h3.size, fun q hq => ?_⟩
    rw [h3.block q (Nat.lt_of_lt_of_le hq hb.size) (by simp [Value.ownBlock]; omega)]
    exact hb.block q hq
theorem copy_okT : CopyOk 27 9 1 := by
  intro W m c a ys ty hyl hc hone hn hl
  obtain ⟨i2, hi2, z20, z21, z22⟩ := info_parts Tryz.info9
  have hE : (W.alloc (.cells #[] 9)).ownsRow W.heap.size 9 1 (.slice (some ⟨W.heap.size, 0, none⟩) 0 0) 0 [] :=
    ⟨rfl, .inr ⟨W.heap.size, 0, #[], rfl, Nat.le_refl _, by show (W.heap.push _)[W.heap.size]? = _; rw [Array.getElem?_push_size], Nat.le_refl _, Nat.zero_le _, rfl, rfl⟩⟩
  have hb : Below W.heap.size W (W.alloc (.cells #[] 9)) := below_alloc (Below.refl _ _) _
  cases a with
  | none =>
    obtain rfl : m = 0 := by
      rcases hc with h | ⟨ad, h, _⟩
      · exact h
      · cases h
    obtain rfl : ys = [] := List.eq_nil_of_length_eq_zero (by omega)
    obtain rfl := hn rfl
    exact ⟨_, _, run_append_owned_none (P := Tryz.prog) _ W.heap.size 27 ty 9 i2 1 Tryz.underlying27 hi2 _ 0 [] hE, hE, hb⟩
  | some ad =>
    have hcells : ∀ j u, ys[j]? = some u → (W.alloc (.cells #[] 9)).cell? (ad.add j) = some u := by
      rcases hc with h | ⟨ad', h, h2⟩
      · obtain rfl : ys = [] := List.eq_nil_of_length_eq_zero (by simp [hyl, h])
        intro j u hu; simp at hu
      · injection h with h
        subst h
        exact fun j u hu => cell_later hb (h2 j u hu)
    obtain ⟨T, w', hr, h2, h3, _, h5⟩ := run_append_own_at (P := Tryz.prog) (w := W.alloc (.cells #[] 9)) W.heap.size 27 ty 9 i2 (.string ⟨#[]⟩) 1 16 Tryz.underlying27 hi2 z20 z21 z22 rfl (by decide) _ 0 [] hE ad m c ys hyl hcells hone (by unfold maxLen; omega) (by omega) hb.size
    rw [Nat.zero_add, List.nil_append] at h2
    refine ⟨T, w', hr, h2, ?_⟩
    refine ⟨h3.os.trans hb.os, h3.tape.trans hb.tape, h3.output.trans hb.output, Nat.le_trans hb.size h3.size, fun q hq => ?_⟩
    rw [h3.block q (Nat.lt_of_lt_of_le hq hb.size) (by simp [Value.ownBlock]; omega)]
    exact hb.block q hq
theorem copy_okV : CopyOk 22 38 3 := by
  intro W m c a ys ty hyl hc hone hn hl
  obtain ⟨i2, hi2, z20, z21, z22⟩ := info_parts Tryz.info38
  have hE : (W.alloc (.cells #[] 38)).ownsRow W.heap.size 38 3 (.slice (some ⟨W.heap.size, 0, none⟩) 0 0) 0 [] :=
    ⟨rfl, .inr ⟨W.heap.size, 0, #[], rfl, Nat.le_refl _, by show (W.heap.push _)[W.heap.size]? = _; rw [Array.getElem?_push_size], Nat.le_refl _, Nat.zero_le _, rfl, rfl⟩⟩
  have hb : Below W.heap.size W (W.alloc (.cells #[] 38)) := below_alloc (Below.refl _ _) _
  cases a with
  | none =>
    obtain rfl : m = 0 := by
      rcases hc with h | ⟨ad, h, _⟩
      · exact h
      · cases h
    obtain rfl : ys = [] := List.eq_nil_of_length_eq_zero (by omega)
    obtain rfl := hn rfl
    exact ⟨_, _, run_append_owned_none (P := Tryz.prog) _ W.heap.size 22 ty 38 i2 3 Tryz.underlying22 hi2 _ 0 [] hE, hE, hb⟩
  | some ad =>
    have hcells : ∀ j u, ys[j]? = some u → (W.alloc (.cells #[] 38)).cell? (ad.add j) = some u := by
      rcases hc with h | ⟨ad', h, h2⟩
      · obtain rfl : ys = [] := List.eq_nil_of_length_eq_zero (by simp [hyl, h])
        intro j u hu; simp at hu
      · injection h with h
        subst h
        exact fun j u hu => cell_later hb (h2 j u hu)
    obtain ⟨T, w', hr, h2, h3, _, h5⟩ := run_append_own_at (P := Tryz.prog) (w := W.alloc (.cells #[] 38)) W.heap.size 22 ty 38 i2 (.agg #[.int .i64 0, .int .i64 0, .string ⟨#[]⟩]) 3 32 Tryz.underlying22 hi2 z20 z21 z22 rfl (by decide) _ 0 [] hE ad m c ys hyl hcells hone (by unfold maxLen; omega) (by omega) hb.size
    rw [Nat.zero_add, List.nil_append] at h2
    refine ⟨T, w', hr, h2, ?_⟩
    refine ⟨h3.os.trans hb.os, h3.tape.trans hb.tape, h3.output.trans hb.output, Nat.le_trans hb.size h3.size, fun q hq => ?_⟩
    rw [h3.block q (Nat.lt_of_lt_of_le hq hb.size) (by simp [Value.ownBlock]; omega)]
    exact hb.block q hq

theorem row_cellsM {w : World} {a : Option Addr} {xs : List Val} (h : RowAt w a xs) : xs.length = 0 ∨ ∃ ad, a = some ad ∧ ∀ j u, (xs.flatMap c3)[j]? = some u → w.cell? (ad.add j) = some u := by
  rcases h with h | ⟨b, off, e, h⟩
  · exact .inl (by rw [h]; rfl)
  · refine .inr ⟨⟨b, off, none⟩, e, fun j u hu => ?_⟩
    have hj : j < xs.length * 3 := by have := (List.getElem?_eq_some_iff.1 hu).1; rw [flat_len] at this; exact this
    have ej : j = (j / 3) * 3 + j % 3 := by omega
    have hx : xs[j / 3]? = some (xs[j / 3]'(by omega)) := List.getElem?_eq_getElem (by omega)
    obtain ⟨f0, f1, f2⟩ := h (j / 3) _ hx
    have hfl := flat_at xs (j / 3) (j % 3) _ hx (by omega)
    rw [← ej, hu] at hfl
    have ea : (⟨b, off, none⟩ : Addr).add j = ⟨b, off + j, none⟩ := by by_cases h : j = 0 <;> simp [Addr.add, h]
    rw [ea]
    have h3 : j % 3 = 0 ∨ j % 3 = 1 ∨ j % 3 = 2 := by omega
    rcases h3 with h3 | h3 | h3
    · rw [h3] at hfl ej; simp [c3] at hfl; rw [hfl, ← f0]; congr 2; omega
    · rw [h3] at hfl ej; simp [c3] at hfl; rw [hfl, ← f1]; congr 2; omega
    · rw [h3] at hfl ej; simp [c3] at hfl; rw [hfl, ← f2]; congr 2; omega
theorem lis_cells {w : World} {a : Option Addr} {cs : List Value} (h : LisAt w a cs) : cs.length = 0 ∨ ∃ ad, a = some ad ∧ ∀ j u, cs[j]? = some u → w.cell? (ad.add j) = some u := by
  rcases h with h | ⟨b, off, e, h⟩
  · exact .inl (by rw [h]; rfl)
  · refine .inr ⟨⟨b, off, none⟩, e, fun j u hu => ?_⟩
    have ea : (⟨b, off, none⟩ : Addr).add j = ⟨b, off + j, none⟩ := by by_cases h : j = 0 <;> simp [Addr.add, h]
    rw [ea]
    exact h j u hu
theorem flat_ones (xs : List Val) : ∀ u ∈ xs.flatMap c3, u.oneCell' = true := fun u hu => by
  obtain ⟨y, _, hu⟩ := List.mem_flatMap.1 hu
  exact c3_one y u hu
theorem copied_any {w : World} {a : Option Addr} {c : Nat} {xs : List Val} (h : RowAt w a xs) (hn : a = none → c = 0) (hl : xs.length ≤ 4194304) : Calls Tryz.prog 4 #[.slice a xs.length c] w fun e w' => ∃ v, e = .returned v ∧ OwnV w' w.heap.size v xs ∧ Below w.heap.size w w' := by
  obtain ⟨T, w', hrun, h1, h2⟩ := copy_okV w xs.length c a (xs.flatMap c3) 22 (flat_len xs) (row_cellsM h) (flat_ones xs) hn hl
  have H1 := hide h1
  have H2 := hide h2
  clear h1 h2 h
  go_enter Tryz.func4, Tryz.ntmps4
  go_wp2_with (at_builtin; refine wpList_app_run rfl (.tmp 3) (.tmp 4) 22 rfl _ _ rfl rfl hrun ?_)
  go_ret
  exact ⟨T, rfl, unhide H1, unhide H2⟩
end Go.Proofs.YtjnggnhgambmkaaGreat
set_option linter.unusedSimpArgs false
set_option linter.unusedVariables false
set_option maxRecDepth 100000
namespace Go.Proofs.YtjnggnhgambmkaaGreat
open Go.RowKit Go.Sort

set_option maxHeartbeats 4000000 in
theorem spoiltL {w : World} {base n : Nat} {S : Value} {ys : List Value} (ho : w.ownsRow base 2 1 S n ys) (hl : n ≤ 2097152) (x : Int) : Calls Tryz.prog 32 #[S, .int .i64 x] w fun e w' => e = .returned (.tuple #[]) ∧ w.grownBy w' S.ownBlock := by
  have HS0 := hide (SpS.start ho)
  obtain ⟨aS, cS, hS⟩ := own_slice ho
  subst hS
  clear ho
  have HAP := hide app_okL
  have HC1 : Hid (∀ (W : World) j u, [.int .i64 x][j]? = some u → (W.alloc (.cells #[.int .i64 x] 2)).cell? ((⟨W.heap.size, 0, none⟩ : Addr).add j) = some u) := fun W j u hu => by
    rw [Addr.add_lit]
    match j, hu with
    | 0, hu => simp at hu; subst hu; simp [go_sem]
    | j + 1, hu => simp at hu
  have HO1 : Hid (∀ u ∈ ([.int .i64 x] : List Value), u.oneCell' = true) := fun u hu => by simp at hu; subst hu; rfl
  go_enter Tryz.func32, Tryz.ntmps32
  go_wp2_with fail
  go_loopw [11] (fun s11 wr => ∃ i : Nat, s11 = .int .i64 (i : Int) ∧ i ≤ n ∧ Hid (SpS 2 1 w wr (.slice aS n cS) n)) (fun s _ => n - (intOf s).toNat)
  case atStart => exact ⟨0, rfl, Nat.zero_le _, HS0⟩
  case round =>
    obtain ⟨i, rfl, hin, HS⟩ := hrel
    clear HS0
    by_cases hi : i < n
    · obtain ⟨g, cap, hg⟩ := (unhide HS).some (by omega)
      injection hg with hg _ hcap
      subst hg hcap
      obtain ⟨ec, ez⟩ := (unhide HS).facts
      obtain ⟨y, e0⟩ := ec i (by omega)
      have z0 := ez i
      have HS2 := hide ((unhide HS).set (j := i) (.int .i64 x))
      have i1 : (i : Int) < (n : Int) := by omega
      clear ez ec
      go_wp2
      go_roundw
      case rel => exact ⟨i + 1, by go_num, by omega, HS2⟩
      case measure => simp [intOf]; omega
    · obtain rfl : i = n := by omega
      have HT0 := hide (SpT.self (unhide HS))
      go_wp2_with fail
      go_loopw [5, 6] (fun s5 s6 wq => ∃ (j : Nat) (T : Value), s5 = T ∧ s6 = .int .i64 (j : Int) ∧ j ≤ 20 ∧ Hid (SpS 2 1 w wq (.slice aS i cS) i) ∧ Hid (SpT 2 1 w wq (.slice aS i cS) i T (i + j))) (fun _ s _ => 20 - (intOf s).toNat)
      case atStart => exact ⟨0, _, rfl, rfl, Nat.zero_le _, HS, HT0⟩
      case round =>
        obtain ⟨j, T, rfl, rfl, hj, HQ, HT⟩ := hrel
        clear HS HT0
        obtain ⟨aT, cT, hT⟩ := (unhide HT).slice
        subst hT
        by_cases hj2 : j < 20
        · have hb : Below wr.heap.size wr (wr.alloc (.cells #[.int .i64 x] 2)) := below_alloc (Below.refl _ _) _
          obtain ⟨T', w', hrun, hQ', hT', _⟩ := SpT.app (c := 1) (unhide HAP) ((unhide HQ).later hb) ((unhide HT).later hb) 26 ⟨wr.heap.size, 0, none⟩ (m := 1) (ys := [.int .i64 x]) rfl (unhide HC1 wr) (unhide HO1) (by omega) (by omega)
          have HQ' := hide hQ'
          have HT' := hide hT'
          have i1 : (j : Int) < 20 := by omega
          clear hQ' hT' hb
          go_wp2_with (at_builtin; refine wpList_app_run rfl (.tmp 24) (.tmp 26) 26 rfl _ _ rfl rfl hrun ?_)
          go_roundw
          case rel => exact ⟨j + 1, T', rfl, by go_num, by omega, HQ', HT'⟩
          case measure => simp [intOf]; omega
        · have i1 : ¬ (j : Int) < 20 := by omega
          clear HT
          go_wp2_with fail
          go_loopw [7, 8] (fun s7 s8 wq => ∃ (j : Nat) (M : Value), M = s7 ∧ s8 = .int .i64 (j : Int) ∧ j ≤ 64 ∧ Hid (SpS 2 1 w wq (.slice aS i cS) i) ∧ Hid (Mm 2 1 w wq M j)) (fun _ s _ => 64 - (intOf s).toNat)
          case atStart => exact ⟨0, _, rfl, rfl, Nat.zero_le _, HQ, Mm.nil⟩
          case round =>
            obtain ⟨q, M, rfl, rfl, hq, HR, HM⟩ := hrel
            clear HQ i1
            obtain ⟨aM, cM, hMs⟩ := (unhide HM).slice
            subst hMs
            by_cases hq2 : q < 64
            · have hb : Below wr.heap.size wr (wr.alloc (.cells #[.int .i64 x] 2)) := below_alloc (Below.refl _ _) _
              obtain ⟨M', w', hrun, hR', hM'⟩ := Mm.step (c := 1) (unhide HAP) (unhide HR) (unhide HM) hb 26 ⟨wr.heap.size, 0, none⟩ (ys := [.int .i64 x]) rfl (unhide HC1 wr) (unhide HO1) (by omega)
              have HR' := hide hR'
              have HM' := hide hM'
              have i1 : (q : Int) < 64 := by omega
              clear hR' hM' hb
              go_wp2_with (at_builtin; refine wpList_app_run rfl (.tmp 32) (.tmp 34) 26 rfl _ _ rfl rfl hrun ?_)
              go_roundw
              case rel => exact ⟨q + 1, M', rfl, by go_num, by omega, HR', HM'⟩
              case measure => simp [intOf]; omega
            · obtain rfl : q = 64 := by omega
              obtain ⟨T', w', hrun, hF⟩ := Mm.last (M := .slice aM 64 cM) (unhide HAP) (unhide HR) (unhide HM) (by omega) 26 (by omega)
              have HF := hide hF
              clear hF
              go_wp2_with (at_builtin; refine wpList_app_run rfl (.tmp 36) (.tmp 37) 26 rfl _ _ rfl rfl hrun ?_)
              go_end0
              exact ⟨rfl, unhide HF⟩
end Go.Proofs.YtjnggnhgambmkaaGreat

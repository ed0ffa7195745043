import Derived.Test.YtgmfbjehdcdioaaOfQ
set_option linter.unusedSimpArgs false
set_option linter.unusedVariables false
set_option maxRecDepth 100000
namespace Go.Proofs.Ytgmfbjehdcdioaa
open Go.RowKit Go.Sort

theorem Of.later {w w' : World} {b k tot fl mb n : Nat} {S : Value} {E : Nat → Nat × Cn} {L : List (Vk × Nat)} (h : Of w b k tot fl mb S n E L) (hb : Below w.heap.size w w') : Of w' b k tot fl mb S n E L := by
  refine ⟨rowIs_later h.box hb, h.qu.later hb, h.ne, ?_, h.same, h.heap⟩
  obtain ⟨es, clk, hh, he⟩ := h.map
  exact ⟨es, clk, by rw [hb.block mb (Array.getElem?_eq_some_iff.1 hh).1]; exact hh, he⟩

/-- What count leaves of a value that is counted. -/
def CoA (w : World) (b k tot fl mb : Nat) (S : Value) (n : Nat) (E : Nat → Nat × Cn) (L : List (Vk × Nat)) (i m : Nat) (w' : World) : Prop :=
  ∃ E', Of w' b k tot fl mb S n E' L ∧ Ky (footO b mb S n E) w w' ∧ (∀ k, fq S n E' k → fq S n E k) ∧ (lisE E' n).Perm (lisE (upE E i ((E i).1, (E i).2.bump m)) n)

set_option maxHeartbeats 2000000 in
theorem count_old {w : World} {b k tot fl mb n : Nat} {S : Value} {E : Nat → Nat × Cn} {L : List (Vk × Nat)} (h : Of w b k tot fl mb S n E L) {x : Vk} {j i m : Nat} (hi : i < n) (hx : atK L x = some (j, (E i).1)) (hn : n ≤ 2000) (hlo : (E i).2.lo + m ≤ 4611686018427387904) (hhi : (E i).2.hi + m ≤ 4611686018427387904) :
    Calls Try.prog 23 #[.pointer (some ⟨b, 0, none⟩), x.v, .int .i64 m] w fun e w' => e = .returned (.tuple #[]) ∧ CoA w b k tot fl mb S n E L i m w' := by
  obtain ⟨W1, hW1⟩ : ∃ W1, w.alloc (.cells #[.int .i64 x.k, .int .i64 x.n, .string x.s] 34) = W1 := ⟨_, rfl⟩
  have hB1 : Below w.heap.size w W1 := by rw [← hW1]; exact below_alloc (Below.refl _ _) _
  have h1 := h.later hB1
  obtain ⟨c0, c1, c2, c3, c4, f1, f2, f3, f4⟩ := h1.facts
  have hvo : x.v = .agg #[.int .i64 x.k, .int .i64 x.n, .string x.s] := rfl
  have v0 : W1.cell? ⟨w.heap.size, 0, none⟩ = some (.int .i64 x.k) := by rw [← hW1]; simp [go_sem]
  have v1 : W1.cell? ⟨w.heap.size, 1, none⟩ = some (.int .i64 x.n) := by rw [← hW1]; simp [go_sem]
  have v2 : W1.cell? ⟨w.heap.size, 2, none⟩ = some (.string x.s) := by rw [← hW1]; simp [go_sem]
  have hlk : (Instr.lookup 50 (.map (some mb)) (.agg #[.int .i64 x.k, .int .i64 x.n, .string x.s]) true).run Try.prog W1.drew = .ok (.tuple #[.pointer (some ⟨(E i).1, 0, none⟩), .bool true]) W1.drew := look_yes (W := W1.drew) (h1.later (Below.refl _ _).drew).map hx
  have hc := h1.qu.ctr i hi
  have d3 := hc.cell (i := 3) (by omega)
  have d4 := hc.cell (i := 4) (by omega)
  have d5 := hc.cell (i := 5) (by omega)
  have z3 := hc.frozen 3
  have z4 := hc.frozen 4
  simp only [box6] at d3 d4 d5
  have hbu := h1.qu.bump h1.ne hi (m := m) (a := ((E i).2.lo : Int) + (m : Int)) (c := ((E i).2.hi : Int) + (m : Int)) (by omega) (by omega)
  have HFX : Hid (∀ W, Below ((W1.setCell ⟨(E i).1, 3, none⟩ (.int .i64 (((E i).2.lo : Int) + (m : Int)))).setCell ⟨(E i).1, 4, none⟩ (.int .i64 (((E i).2.hi : Int) + (m : Int)))).heap.size ((W1.setCell ⟨(E i).1, 3, none⟩ (.int .i64 (((E i).2.lo : Int) + (m : Int)))).setCell ⟨(E i).1, 4, none⟩ (.int .i64 (((E i).2.hi : Int) + (m : Int)))) W →
      Calls Try.prog 36 #[.iface 82 (.pointer (some ⟨b, 4, none⟩)), .int .i64 i] W fun e w' => e = .returned (.tuple #[]) ∧ CoA w b k tot fl mb S n E L i m w') := fun W hW => by
    refine (fix_any (hbu.1.later hW) (fun k hk => h1.ne k ((hbu.2.2 k).1 hk)) hi hn (h1.heap.grown (key_bump E i m) (by unfold keyE; rw [upE_s]; simp only [Cn.bump]; omega))).mono ?_
    rintro e w' ⟨rfl, E', q1, q2⟩
    have hWk : Ky (fq S n E) w W := (Ky.of_below (F := fq S n E) hB1).trans (hbu.2.1.trans (Ky.of_below (F := fq S n E) hW) fun k hk => .inl hk) fun k hk => .inl hk
    exact ⟨rfl, E', h.more hi hWk q1 hbu.2.2 q2⟩
  obtain ⟨p, hp⟩ : ∃ p, (E i).1 = p := ⟨_, rfl⟩
  obtain ⟨lo, hlo'⟩ : ∃ lo, (E i).2.lo = lo := ⟨_, rfl⟩
  obtain ⟨hh, hhi'⟩ : ∃ hh, (E i).2.hi = hh := ⟨_, rfl⟩
  have hpb : ¬ p = b := by rw [← hp]; exact h.ne _ (.inr ⟨i, hi, rfl⟩)
  rw [hp] at hlk d3 d4 d5 z3 z4 HFX
  rw [hlo'] at d3 hlo HFX
  rw [hhi'] at d4 hhi HFX
  have HP5 : Hid (∀ X : World, (W1.setCell ⟨p, 3, none⟩ (.int .i64 ((lo : Int) + (m : Int)))).setCell ⟨p, 4, none⟩ (.int .i64 ((hh : Int) + (m : Int))) = X → X.cell? ⟨p, 5, none⟩ = some (.int .i64 (i : Int))) := fun X hX => by
    have := ((h1.qu.ctr i hi).set 3 (.int .i64 ((lo : Int) + (m : Int)))).set 4 (.int .i64 ((hh : Int) + (m : Int)))
    rw [hp, hX] at this
    exact this.cell (i := 5) (by omega)
  clear h h1 hc hbu hp hlo' hhi' hx hB1
  rw [hvo]
  go_enter Try.func23, Try.ntmps23
  go_upto_region 1 with fail
  go_region_law (fail)
  all_goals
    go_upto_region 5 with fail
    refine wp_region_noPanic ?_
    refine wp_region_G (S := fun w' : World => w'.cell? ⟨p, 5, none⟩ = some (.int .i64 (i : Int))) (k := 8) (by kernel_rfl) ?_
    obtain ⟨X, hX⟩ : ∃ X, (W1.setCell ⟨p, 3, none⟩ (.int .i64 ((lo : Int) + (m : Int)))).setCell ⟨p, 4, none⟩ (.int .i64 ((hh : Int) + (m : Int))) = X := ⟨_, rfl⟩
    rw [hX] at HFX ⊢
    have SS : (fun w' : World => w'.cell? ⟨p, 5, none⟩ = some (.int .i64 (i : Int))) X.drew.drew := unhide HP5 X hX
    have HBX : Hid (Below X.heap.size X X.drew.drew) := (Below.refl _ _).drew.drew
    clear hX
    change anyG _ _ _ _ _ _ _ _ _ X.drew.drew
    refine anyG_takel (i := 0) (v := (.pointer (some ⟨b, 0, none⟩))) [1, 2, 3, 8] rfl (by kernel_rfl) (by kernel_rfl) (by kernel_rfl) (by kernel_rfl) (fun _ _ _ h => h) (Or.inl ⟨by rfl, fun w' hSw => ?_⟩) SS ?_
    · dsimp only at hSw; go_simp
    try simp only [Act.put, List.setIfInBounds_toArray, List.set_cons_zero, List.set_cons_succ]
    refine anyG_takel (i := 1) (v := (.pointer (some ⟨b, 0, none⟩))) [2, 3, 8] rfl (by kernel_rfl) (by kernel_rfl) (by kernel_rfl) (by kernel_rfl) (fun _ _ _ h => h) (Or.inl ⟨by rfl, fun w' hSw => ?_⟩) SS ?_
    · dsimp only at hSw; go_simp
    try simp only [Act.put, List.setIfInBounds_toArray, List.set_cons_zero, List.set_cons_succ]
    refine anyG_takel (i := 2) (v := (.pointer (some ⟨b, 4, none⟩))) [3, 8] rfl (by kernel_rfl) (by kernel_rfl) (by kernel_rfl) (by kernel_rfl) (fun _ _ _ h => h) (Or.inl ⟨by rfl, fun w' hSw => ?_⟩) SS ?_
    · dsimp only at hSw; go_simp
    try simp only [Act.put, List.setIfInBounds_toArray, List.set_cons_zero, List.set_cons_succ]
    refine anyG_takel (i := 3) (v := (.iface 82 (.pointer (some ⟨b, 4, none⟩)))) [8] rfl (by kernel_rfl) (by kernel_rfl) (by kernel_rfl) (by kernel_rfl) (fun _ _ _ h => h) (Or.inl ⟨by rfl, fun w' hSw => ?_⟩) SS ?_
    · dsimp only at hSw; go_simp
    try simp only [Act.put, List.setIfInBounds_toArray, List.set_cons_zero, List.set_cons_succ]
    refine anyG_takel (i := 4) (v := (.pointer (some ⟨p, 0, none⟩))) [5, 6, 7, 8] rfl (by kernel_rfl) (by kernel_rfl) (by kernel_rfl) (by kernel_rfl) (fun _ _ _ h => h) (Or.inl ⟨by rfl, fun w' hSw => ?_⟩) SS ?_
    · dsimp only at hSw; go_simp
    try simp only [Act.put, List.setIfInBounds_toArray, List.set_cons_zero, List.set_cons_succ]
    refine anyG_takel (i := 5) (v := (.pointer (some ⟨p, 0, none⟩))) [6, 7, 8] rfl (by kernel_rfl) (by kernel_rfl) (by kernel_rfl) (by kernel_rfl) (fun _ _ _ h => h) (Or.inl ⟨by rfl, fun w' hSw => ?_⟩) SS ?_
    · dsimp only at hSw; go_simp
    try simp only [Act.put, List.setIfInBounds_toArray, List.set_cons_zero, List.set_cons_succ]
    refine anyG_takel (i := 6) (v := (.pointer (some ⟨p, 5, none⟩))) [7, 8] rfl (by kernel_rfl) (by kernel_rfl) (by kernel_rfl) (by kernel_rfl) (fun _ _ _ h => h) (Or.inl ⟨by rfl, fun w' hSw => ?_⟩) SS ?_
    · dsimp only at hSw; go_simp
    try simp only [Act.put, List.setIfInBounds_toArray, List.set_cons_zero, List.set_cons_succ]
    refine anyG_takel (i := 7) (v := (.int .i64 (i : Int))) [8] rfl (by kernel_rfl) (by kernel_rfl) (by kernel_rfl) (by kernel_rfl) (fun _ _ _ h => h) (Or.inl ⟨by rfl, fun w' hSw => ?_⟩) SS ?_
    · dsimp only at hSw; go_simp
    try simp only [Act.put, List.setIfInBounds_toArray, List.set_cons_zero, List.set_cons_succ]
    refine anyG_one (i := 8) (by kernel_rfl) ?_
    refine wpOp_lit rfl (by rfl) fun K hK => ?_
    go_simp
    refine (unhide HFX _ (unhide HBX)).mono ?_
    rintro e w5 ⟨rfl, HS5⟩
    replace HS5 := hide HS5
    go_simp
    refine unhide hK _ _ ⟨fun hh => absurd hh (by decide), ?_⟩
    clear hK K
    refine anyG_done (by kernel_rfl) ?_ _
    refine NoPanic.normal ?_
    go_wp2
    exact bodyPost_ret (v := .tuple #[]) (by simp [results, Try.results23, go_sem]) rfl ⟨rfl, unhide HS5⟩
end Go.Proofs.Ytgmfbjehdcdioaa

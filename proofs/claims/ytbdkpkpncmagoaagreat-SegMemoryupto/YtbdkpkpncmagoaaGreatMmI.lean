import Derived.Test.YtbdkpkpncmagoaaGreatMmC
import Derived.Test.YtbdkpkpncmagoaaGreatAnyG
set_option linter.unusedSimpArgs false
set_option linter.unusedVariables false
set_option maxRecDepth 100000
namespace Go.Proofs.YtbdkpkpncmagoaaGreat
open Go.RowKit Go.Sort

/-- All blocks but F are as they were. -/
structure Ky (F : Nat → Prop) (w w' : World) : Prop where
  os : w'.os = w.os
  tape : w'.tape = w.tape
  output : w'.output = w.output
  size : w.heap.size ≤ w'.heap.size
  block : ∀ q, q < w.heap.size → ¬ F q → w'.heap[q]? = w.heap[q]?
theorem Ky.of_below {F : Nat → Prop} {w w' : World} (h : Below w.heap.size w w') : Ky F w w' := ⟨h.os, h.tape, h.output, h.size, fun k hk _ => h.block k hk⟩
theorem Ky.of_grown {F : Nat → Prop} {w w' : World} {r : Option Nat} (h : w.grownBy w' r) (hr : ∀ g, r = some g → F g) : Ky F w w' := ⟨h.os, h.tape, h.output, h.size, fun k hk hn => h.block k hk fun e => hn (hr k e.symm)⟩
theorem Ky.trans {F : Nat → Prop} {w w1 w2 : World} (h : Ky F w w1) (h2 : Ky F w1 w2) : Ky F w w2 := ⟨h2.os.trans h.os, h2.tape.trans h.tape, h2.output.trans h.output, Nat.le_trans h.size h2.size, fun q hq hn => (h2.block q (Nat.lt_of_lt_of_le hq h.size) hn).trans (h.block q hq hn)⟩
theorem Ky.below {F : Nat → Prop} {w w' : World} (h : Ky F w w') {n : Nat} (hn : ∀ k, F k → n ≤ k) (hs : n ≤ w.heap.size) : Below n w w' := ⟨h.os, h.tape, h.output, h.size, fun k hk => h.block k (by omega) (fun f => by have := hn k f; omega)⟩
theorem Ky.less {F G : Nat → Prop} {w w' : World} (h : Ky F w w') (hF : ∀ q, q < w.heap.size → F q → G q) : Ky G w w' := ⟨h.os, h.tape, h.output, h.size, fun q hq hn => h.block q hq fun f => hn (hF q hq f)⟩
/-- A column's blocks. -/
def slB (X : Vc) (p : Sl) (q : Nat) : Prop := (Value.slice p.a1 X.nl.length p.c1).ownBlock = some q ∨ (Value.slice p.a2 X.ns.length p.c2).ownBlock = some q ∨ (Value.slice p.a3 X.ss.length p.c3).ownBlock = some q
theorem own_diff {w : World} {base base' t t' sz sz' n n' : Nat} {S S' : Value} {xs xs' : List Value} (h : w.ownsRow base t sz S n xs) (h' : w.ownsRow base' t' sz' S' n' xs') (ht : t ≠ t') : ∀ g, S.ownBlock = some g → S'.ownBlock ≠ some g := fun g hg hg' => by
  rcases h.2 with ⟨e, _⟩ | ⟨g1, c1, cur1, e, _, k1, _⟩
  · rw [e] at hg; cases hg
  rcases h'.2 with ⟨e', _⟩ | ⟨g2, c2, cur2, e', _, k2, _⟩
  · rw [e'] at hg'; cases hg'
  rw [e] at hg
  rw [e'] at hg'
  simp [Value.ownBlock] at hg hg'
  subst hg hg'
  rw [k1] at k2
  injection k2 with k2
  injection k2 with _ k2 _
  exact ht k2
/-- The nulls, under way. -/
def SpB (w wr : World) (S : Value) (n : Nat) : Prop := SpS 4 1 w wr S n ∧ ∃ bs : List Bool, wr.ownsRow 0 4 1 S n (bs.map Value.bool)
theorem SpB.later {w wr w' : World} {S : Value} {n : Nat} (h : SpB w wr S n) (hb : Below wr.heap.size wr w') : SpB w w' S n := by
  obtain ⟨h1, bs, h2⟩ := h
  exact ⟨h1.later hb, bs, own_later h2 hb⟩
theorem SpB.at {w wr : World} {g cap n i : Nat} (h : SpB w wr (.slice (some ⟨g, 0, none⟩) n cap) n) (hi : i < n) : ∃ b : Bool, wr.cell? ⟨g, i, none⟩ = some (.bool b) ∧ wr.frozen? ⟨g, i, none⟩ = false ∧ SpB w (wr.setCell ⟨g, i, none⟩ (.bool (!b))) (.slice (some ⟨g, 0, none⟩) n cap) n := by
  obtain ⟨h1, bs, h2⟩ := h
  have hl : bs.length = n := by have := h2.1; simpa using this
  have hx : bs[i]? = some (bs[i]'(by omega)) := List.getElem?_eq_getElem (by omega)
  refine ⟨bs[i]'(by omega), ?_, World.ownsRow.frozenAt h2 i, h1.set _, bs.set i (!(bs[i]'(by omega))), ?_⟩
  · rw [World.ownsRow.cellAt h2 i (by omega), List.getElem?_map, hx]; rfl
  · have := (World.ownsRow.stored h2 i (.bool (!(bs[i]'(by omega))))).1
    rw [List.map_set]
    exact this

set_option maxHeartbeats 4000000 in
theorem spoiltvec_any {w : World} {base : Nat} {X : Vc} {p : Sl} (ho : Own3 w base X p) (l1 : X.nl.length ≤ 2097152) (l2 : X.ns.length ≤ 2097152) (l3 : X.ss.length ≤ 2097152) : Calls Tryz.prog 18 #[vecV X p] w fun e w' => e = .returned (.tuple #[]) ∧ Ky (slB X p) w w' := by
  rw [vecV_open]
  obtain ⟨W, hW⟩ : ∃ W, w.alloc (.cells #[.int .i64 X.k, .slice p.a1 X.nl.length p.c1, .slice p.a2 X.ns.length p.c2, .slice p.a3 X.ss.length p.c3] 49) = W := ⟨_, rfl⟩
  have hBW : Below w.heap.size w W := by rw [← hW]; exact below_alloc (Below.refl _ _) _
  obtain ⟨o1, o2, o3⟩ := ho
  have O1 := hide (own_later o1 hBW)
  have O2 := hide (own_later o2 hBW)
  have O3 := hide (own_later o3 hBW)
  have HBW := hide hBW
  obtain ⟨bx, hbx⟩ : ∃ bx, w.heap.size = bx := ⟨_, rfl⟩
  have HNB : Hid ((Value.slice p.a1 X.nl.length p.c1).ownBlock ≠ some bx ∧ (Value.slice p.a2 X.ns.length p.c2).ownBlock ≠ some bx ∧ (Value.slice p.a3 X.ss.length p.c3).ownBlock ≠ some bx ∧ bx < W.heap.size ∧ W.cell? ⟨bx, 1, none⟩ = some (.slice p.a1 X.nl.length p.c1) ∧ W.cell? ⟨bx, 2, none⟩ = some (.slice p.a2 X.ns.length p.c2) ∧ W.cell? ⟨bx, 3, none⟩ = some (.slice p.a3 X.ss.length p.c3)) := by
    refine ⟨fun e => ?_, fun e => ?_, fun e => ?_, ?_, ?_, ?_, ?_⟩
    · have := (World.ownsRow.lt o1 _ e).2; omega
    · have := (World.ownsRow.lt o2 _ e).2; omega
    · have := (World.ownsRow.lt o3 _ e).2; omega
    · rw [← hW, ← hbx]; show w.heap.size < (w.heap.push _).size; rw [Array.size_push]; omega
    · rw [← hW, ← hbx]; simp [go_sem]
    · rw [← hW, ← hbx]; simp [go_sem]
    · rw [← hW, ← hbx]; simp [go_sem]
  clear o1 o2 o3 hBW
  obtain ⟨n, hn⟩ : ∃ n, X.nl.length = n := ⟨_, rfl⟩
  have HS0 : Hid (SpB W W (.slice p.a1 n p.c1) n) := by
    have := unhide O1
    rw [hn] at this
    exact ⟨SpS.start this, X.nl, own_lessB this (Nat.zero_le _)⟩
  have HK := hide (fun (wr : World) (q j : Nat) (v : Value) (e : wr.heap[q]? = W.heap[q]?) (h : W.cell? ⟨q, j, none⟩ = some v) => show wr.cell? ⟨q, j, none⟩ = some v by rw [← h]; unfold World.cell?; rw [e])
  have HSB : Hid (∀ q, (Value.slice p.a1 n p.c1).ownBlock = some q → slB X p q) := fun q hq => .inl (by rw [hn]; exact hq)
  rw [hn] at HNB l1 hW O1 ⊢
  have mc0 := (unhide HNB).2.2.2.2.1
  go_enter Tryz.func18, Tryz.ntmps18
  go_wp2_with fail
  go_loopw [6] (fun s6 wr => ∃ i : Nat, s6 = .int .i64 (i : Int) ∧ i ≤ n ∧ Hid (SpB W wr (.slice p.a1 n p.c1) n)) (fun s _ => n - (intOf s).toNat)
  case atStart => exact ⟨0, rfl, Nat.zero_le _, HS0⟩
  case round =>
    obtain ⟨i, rfl, hin, HS⟩ := hrel
    clear HS0 mc0
    obtain ⟨m1, m2, m3, mlt, mc1, mc2, mc3⟩ := unhide HNB
    have b1 := unhide HK wr bx 1 _ ((unhide HS).1.block mlt m1) mc1
    by_cases hi : i < n
    · obtain ⟨g, cap, hg⟩ := (unhide HS).1.some (by omega)
      injection hg with hg _ hcap
      rw [hg, hcap] at HS b1
      obtain ⟨b, c0, z0, hS2⟩ := ((unhide HS).later (Below.refl _ _).drew).at hi
      have HS2 := hide hS2
      have i1 : (i : Int) < (n : Int) := by omega
      clear hS2 m1 m2 m3 mlt mc1 mc2 mc3
      go_upto_region 4 with fail
      refine wp_region_noPanic ?_
      refine wp_region_G (S := fun w' : World => w'.cell? ⟨bx, 1, none⟩ = some (.slice (some ⟨g, 0, none⟩) n cap) ∧ w'.cell? ⟨g, i, none⟩ = some (.bool b)) (k := 10) (by kernel_rfl) ?_
      have SS : (fun w' : World => w'.cell? ⟨bx, 1, none⟩ = some (.slice (some ⟨g, 0, none⟩) n cap) ∧ w'.cell? ⟨g, i, none⟩ = some (.bool b)) wr.drew := ⟨cell_later (Below.refl _ _).drew b1, c0⟩
      change anyG _ _ _ _ _ _ _ _ _ wr.drew
      refine anyG_takel (i := 0) (v := (.pointer (some ⟨bx, 1, none⟩))) [1, 9, 10] rfl (by kernel_rfl) (by kernel_rfl) (by kernel_rfl) (by kernel_rfl) (fun _ _ _ h => h) (Or.inl ⟨by rfl, fun w' hSw => ?_⟩) SS ?_
      · dsimp only at hSw; obtain ⟨z0, z1⟩ := hSw; go_simp
      try simp only [Act.put, List.setIfInBounds_toArray, List.set_cons_zero, List.set_cons_succ]
      refine anyG_takel (i := 1) (v := (.slice (some ⟨g, 0, none⟩) n cap)) [9, 10] rfl (by kernel_rfl) (by kernel_rfl) (by kernel_rfl) (by kernel_rfl) (fun _ _ _ h => h) (Or.inl ⟨by rfl, fun w' hSw => ?_⟩) SS ?_
      · dsimp only at hSw; obtain ⟨z0, z1⟩ := hSw; go_simp
      try simp only [Act.put, List.setIfInBounds_toArray, List.set_cons_zero, List.set_cons_succ]
      refine anyG_takel (i := 2) (v := (.int .i64 (i : Int))) [9, 10] rfl (by kernel_rfl) (by kernel_rfl) (by kernel_rfl) (by kernel_rfl) (fun _ _ _ h => h) (Or.inl ⟨by rfl, fun w' hSw => ?_⟩) SS ?_
      · dsimp only at hSw; obtain ⟨z0, z1⟩ := hSw; go_simp
      try simp only [Act.put, List.setIfInBounds_toArray, List.set_cons_zero, List.set_cons_succ]
      refine anyG_takel (i := 3) (v := (.pointer (some ⟨bx, 1, none⟩))) [4, 6, 7, 8, 10] rfl (by kernel_rfl) (by kernel_rfl) (by kernel_rfl) (by kernel_rfl) (fun _ _ _ h => h) (Or.inl ⟨by rfl, fun w' hSw => ?_⟩) SS ?_
      · dsimp only at hSw; obtain ⟨z0, z1⟩ := hSw; go_simp
      try simp only [Act.put, List.setIfInBounds_toArray, List.set_cons_zero, List.set_cons_succ]
      refine anyG_takel (i := 4) (v := (.slice (some ⟨g, 0, none⟩) n cap)) [6, 7, 8, 10] rfl (by kernel_rfl) (by kernel_rfl) (by kernel_rfl) (by kernel_rfl) (fun _ _ _ h => h) (Or.inl ⟨by rfl, fun w' hSw => ?_⟩) SS ?_
      · dsimp only at hSw; obtain ⟨z0, z1⟩ := hSw; go_simp
      try simp only [Act.put, List.setIfInBounds_toArray, List.set_cons_zero, List.set_cons_succ]
      refine anyG_takel (i := 5) (v := (.int .i64 (i : Int))) [6, 7, 8, 10] rfl (by kernel_rfl) (by kernel_rfl) (by kernel_rfl) (by kernel_rfl) (fun _ _ _ h => h) (Or.inl ⟨by rfl, fun w' hSw => ?_⟩) SS ?_
      · dsimp only at hSw; obtain ⟨z0, z1⟩ := hSw; go_simp
      try simp only [Act.put, List.setIfInBounds_toArray, List.set_cons_zero, List.set_cons_succ]
      refine anyG_takel (i := 6) (v := (.pointer (some ⟨g, i, none⟩))) [7, 8, 10] rfl (by kernel_rfl) (by kernel_rfl) (by kernel_rfl) (by kernel_rfl) (fun _ _ _ h => h) (Or.inl ⟨by rfl, fun w' hSw => ?_⟩) SS ?_
      · dsimp only at hSw; obtain ⟨z0, z1⟩ := hSw; go_simp
      try simp only [Act.put, List.setIfInBounds_toArray, List.set_cons_zero, List.set_cons_succ]
      refine anyG_takel (i := 7) (v := (.bool b)) [8, 10] rfl (by kernel_rfl) (by kernel_rfl) (by kernel_rfl) (by kernel_rfl) (fun _ _ _ h => h) (Or.inl ⟨by rfl, fun w' hSw => ?_⟩) SS ?_
      · dsimp only at hSw; obtain ⟨z0, z1⟩ := hSw; go_simp
      try simp only [Act.put, List.setIfInBounds_toArray, List.set_cons_zero, List.set_cons_succ]
      refine anyG_takel (i := 8) (v := (.bool (!b))) [10] rfl (by kernel_rfl) (by kernel_rfl) (by kernel_rfl) (by kernel_rfl) (fun _ _ _ h => h) (Or.inl ⟨by rfl, fun w' hSw => ?_⟩) SS ?_
      · dsimp only at hSw; obtain ⟨z0, z1⟩ := hSw; go_simp
      try simp only [Act.put, List.setIfInBounds_toArray, List.set_cons_zero, List.set_cons_succ]
      refine anyG_takel (i := 9) (v := (.pointer (some ⟨g, i, none⟩))) [10] rfl (by kernel_rfl) (by kernel_rfl) (by kernel_rfl) (by kernel_rfl) (fun _ _ _ h => h) (Or.inl ⟨by rfl, fun w' hSw => ?_⟩) SS ?_
      · dsimp only at hSw; obtain ⟨z0, z1⟩ := hSw; go_simp
      try simp only [Act.put, List.setIfInBounds_toArray, List.set_cons_zero, List.set_cons_succ]
      refine anyG_one (i := 10) (by kernel_rfl) ?_
      refine wpOp_lit rfl (by rfl) fun K hK => ?_
      go_simp
      refine unhide hK _ _ ⟨fun hh => absurd hh (by decide), ?_⟩
      clear hK K
      refine anyG_done (by kernel_rfl) ?_ _
      refine NoPanic.normal ?_
      go_wp2
      go_roundw
      case rel => exact ⟨i + 1, by go_num, by omega, by first | exact HS2 | (rw [hg, hcap]; exact HS2)⟩
      case measure => simp [intOf]; omega
    · obtain rfl : i = n := by omega
      have hS := (unhide HS).1
      have hb : Below wr.heap.size wr (wr.alloc (.cells #[.bool true] 4)) := below_alloc (Below.refl _ _) _
      have hc1 : ∀ j u, ([.bool true] : List Value)[j]? = some u → (wr.alloc (.cells #[.bool true] 4)).cell? ((⟨wr.heap.size, 0, none⟩ : Addr).add j) = some u := fun j u hu => by
        rw [Addr.add_lit]
        match j, hu with
        | 0, hu => simp at hu; subst hu; simp [go_sem]
        | j + 1, hu => simp at hu
      obtain ⟨T', w6, hrun, hQ, _⟩ := SpT.app (c := 1) app_okB (hS.later hb) ((SpT.self hS).later hb) 45 ⟨wr.heap.size, 0, none⟩ (m := 1) (ys := [.bool true]) rfl hc1 (fun u hu => by simp at hu; subst hu; rfl) (by omega) (by omega)
      have e2 := unhide HK w6 bx 2 _ (hQ.block mlt m1) mc2
      have q2 : w6.ownsRow base 2 1 (.slice p.a2 X.ns.length p.c2) X.ns.length (X.ns.map (.int .i64)) := own_keep (unhide O2) fun g hg => hQ.block (World.ownsRow.lt (unhide O2) g hg).2 (own_diff (unhide O2) (unhide O1) (by decide) g hg)
      have HCH : Hid (Calls Tryz.prog 34 #[.slice p.a2 X.ns.length p.c2, .int .i64 77] w6 fun e w7 => e = .returned (.tuple #[]) ∧ w7.cell? ⟨bx, 3, none⟩ = some (.slice p.a3 X.ss.length p.c3) ∧ Calls Tryz.prog 35 #[.slice p.a3 X.ss.length p.c3, .string ⟨#[115, 112, 111, 105, 108, 116]⟩] w7 fun e w8 => e = .returned (.tuple #[]) ∧ Ky (slB X p) w w8) := by
        refine (spoiltL q2 l2 77).mono ?_
        rintro e w7 ⟨rfl, hg7⟩
        have hk7 : w7.heap[bx]? = W.heap[bx]? := (hg7.block bx (Nat.lt_of_lt_of_le mlt hQ.gr.size) fun e => m2 e.symm).trans (hQ.block mlt m1)
        have q3 : w7.ownsRow base 9 1 (.slice p.a3 X.ss.length p.c3) X.ss.length (X.ss.map .string) := own_keep (unhide O3) fun g hg => by
          have hlt := (World.ownsRow.lt (unhide O3) g hg).2
          rw [hg7.block g (Nat.lt_of_lt_of_le hlt hQ.gr.size) fun e => own_diff (unhide O3) (unhide O2) (by decide) g hg e.symm]
          exact hQ.block hlt (own_diff (unhide O3) (unhide O1) (by decide) g hg)
        refine ⟨rfl, unhide HK w7 bx 3 _ hk7 mc3, (spoiltT q3 l3 _).mono ?_⟩
        rintro e w8 ⟨rfl, hg8⟩
        exact ⟨rfl, (((Ky.of_below (unhide HBW)).trans (Ky.of_grown hQ.gr (unhide HSB))).trans (Ky.of_grown hg7 fun g hg => .inr (.inl hg))).trans (Ky.of_grown hg8 fun g hg => .inr (.inr hg))⟩
      have i1 : ¬ (i : Int) < (i : Int) := by omega
      clear hS hb hc1 hQ q2 m1 m2 m3 mlt mc1 mc2 mc3 HS
      go_wp2_with (first
        | (at_builtin; refine wpList_app_run rfl (.tmp 21) (.tmp 22) 45 rfl _ _ rfl rfl hrun ?_)
        | (go_at_call 34; refine (unhide HCH).mono ?_; rintro _ w7 ⟨rfl, c3', K33⟩; replace K33 := hide K33)
        | (go_at_call 35; refine (unhide K33).mono ?_; rintro _ w8 ⟨rfl, HF⟩; replace HF := hide HF))
      go_end0
      exact ⟨rfl, unhide HF⟩
end Go.Proofs.YtbdkpkpncmagoaaGreat

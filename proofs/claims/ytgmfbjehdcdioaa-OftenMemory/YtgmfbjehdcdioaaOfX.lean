import Derived.Test.YtgmfbjehdcdioaaOfW
import Derived.Carry
set_option linter.unusedSimpArgs false
set_option linter.unusedVariables false
set_option maxRecDepth 100000
namespace Go.Proofs.Ytgmfbjehdcdioaa
open Go.RowKit Go.Sort

/-- What NewOften answers. -/
def NewA (k : Nat) (w : World) (e : Ending) (w' : World) : Prop :=
  ∃ b F, e = .returned (.tuple #[.pointer (some ⟨b, 0, none⟩), .int .i64 0]) ∧ SkO w' b k F [] ∧ Below w.heap.size w w' ∧ ∀ q, foot b F q → w.heap.size ≤ q
theorem new_of (w : World) (k : Nat) : NewA k w (.returned (.tuple #[.pointer (some ⟨w.heap.size + 1, 0, none⟩), .int .i64 0])) ((w.alloc (.map #[] 0)).alloc (.cells #[.int .i64 k, .int .i64 0, .int .i64 0, .map (some w.heap.size), .slice none 0 0] 54)) := by
  have hb : ((w.alloc (.map #[] 0)).alloc (.cells #[.int .i64 k, .int .i64 0, .int .i64 0, .map (some w.heap.size), .slice none 0 0] 54)).rowIs (w.heap.size + 1) 54 5 (box5 (.int .i64 k) (.int .i64 0) (.int .i64 0) (.map (some w.heap.size)) (.slice none 0 0)) := by
    have := World.rowIs_alloc (w.alloc (.map #[] 0)) #[.int .i64 k, .int .i64 0, .int .i64 0, .map (some w.heap.size), .slice none 0 0] 54 (box5 (.int .i64 k) (.int .i64 0) (.int .i64 0) (.map (some w.heap.size)) (.slice none 0 0)) fun i hi => by
      match i, hi with
      | 0, _ => rfl
      | 1, _ => rfl
      | 2, _ => rfl
      | 3, _ => rfl
      | 4, _ => rfl
    have e : (w.alloc (.map #[] 0)).heap.size = w.heap.size + 1 := by simp
    rw [e] at this
    exact this
  have hE : lisE (fun _ => (0, (⟨0, 0, ⟨#[]⟩, 0, 0⟩ : Cn))) 0 = [] := rfl
  refine ⟨w.heap.size + 1, ⟨w.heap.size, .slice none 0 0, 0, fun _ => (0, ⟨0, 0, ⟨#[]⟩, 0, 0⟩)⟩, rfl, ⟨⟨0, [], ⟨hb, ⟨hb.cell (i := 4) (by omega), ⟨by simp [ptrs], .inl ⟨rfl, rfl⟩⟩, fun i hi => absurd hi (Nat.not_lt_zero _), fun i j hi => absurd hi (Nat.not_lt_zero _)⟩, ?_, ⟨#[], 0, ?_, rfl⟩, ?_, ?_⟩, ?_, Nat.zero_le _⟩, by simp [tot]⟩, below_alloc (below_alloc (Below.refl _ _) _) _, ?_⟩
  · rintro q (hq | ⟨i, hi, _⟩)
    · cases hq
    · exact absurd hi (Nat.not_lt_zero _)
  · have h1 : (w.alloc (.map #[] 0)).heap[w.heap.size]? = some (.map #[] 0) := by show (w.heap.push _)[w.heap.size]? = _; rw [Array.getElem?_push_size]
    rw [(below_alloc (Below.refl _ (w.alloc (.map #[] 0))) _).block w.heap.size (by simp)]
    exact h1
  · exact List.Perm.refl _
  · intro i h0 hi; exact absurd hi (Nat.not_lt_zero _)
  · exact loose_new k
  · rintro q (hq | hq | hq | ⟨i, hi, _⟩)
    · omega
    · exact Nat.le_of_eq hq.symm
    · cases hq
    · exact absurd hi (Nat.not_lt_zero _)
theorem new_good (k : Nat) (w : World) (h1 : 1 ≤ k) (h2 : k ≤ 1024) : Calls Try.prog 5 #[.int .i64 k] w fun e w' => NewA k w e w' := by
  have i1 : 1 ≤ (k : Int) := by omega
  have i2 : (k : Int) ≤ 1024 := by omega
  have h' : decide ((k : Int) < 1) = false := by simpa using i1
  have h'' : decide (1024 < (k : Int)) = false := by simpa using i2
  have hmm := @run_makeMap Try.prog
  have HR := hide (new_of w k)
  clear h1 h2
  go_enter Try.func5, Try.ntmps5
  go_wp2
  refine bodyPost_ret (v := .tuple #[.pointer (some ⟨w.heap.size + 1, 0, none⟩), .int .i64 0]) (by simp [results, Try.results5, go_sem]) rfl (unhide HR)

/-- keep, under way. -/
structure KpS (w0 w : World) (b k tot fl mb : Nat) (S : Value) (n : Nat) (E : Nat → Nat × Cn) (i : Nat) : Prop where
  box : w.rowIs b 54 5 (box5 (.int .i64 k) (.int .i64 tot) (.int .i64 fl) (.map (some mb)) S)
  lst : w.ownsRow 0 57 1 S n (ptrs E n)
  ctr : ∀ j, j < n → ∃ pl : Nat, w.rowIs (E j).1 60 6 (box6 (E j).2 pl) ∧ (j < i → pl = j)
  map : MapAt w mb (entsE E i)
  ky : Ky (fun q => q = b ∨ ∃ j, j < n ∧ q = (E j).1) w0 w
  new : w0.heap.size ≤ mb
theorem KpS.later {w0 w w' : World} {b k tot fl mb n i : Nat} {S : Value} {E : Nat → Nat × Cn} (h : KpS w0 w b k tot fl mb S n E i) (hb : Below w.heap.size w w') : KpS w0 w' b k tot fl mb S n E i := by
  refine ⟨rowIs_later h.box hb, own_later h.lst hb, fun j hj => ?_, ?_, h.ky.trans (Ky.of_below (F := fun q => q = b ∨ ∃ j, j < n ∧ q = (E j).1) hb) fun q hq => .inl hq, h.new⟩
  · obtain ⟨pl, h1, h2⟩ := h.ctr j hj; exact ⟨pl, rowIs_later h1 hb, h2⟩
  · obtain ⟨es, clk, hh, he⟩ := h.map
    exact ⟨es, clk, by rw [hb.block mb (Array.getElem?_eq_some_iff.1 hh).1]; exact hh, he⟩
theorem KpS.mne {w0 w : World} {b k tot fl mb n i : Nat} {S : Value} {E : Nat → Nat × Cn} (h : KpS w0 w b k tot fl mb S n E i) : mb ≠ b ∧ (∀ j, j < n → mb ≠ (E j).1) ∧ S.ownBlock ≠ some mb := by
  obtain ⟨es, clk, hh, _⟩ := h.map
  refine ⟨fun e => ?_, fun j hj e => ?_, fun e => ?_⟩
  · obtain ⟨c, hc, _⟩ := h.box
    rw [← e, hh] at hc; cases hc
  · obtain ⟨pl, ⟨c, hc, _⟩, _⟩ := h.ctr j hj
    rw [← e, hh] at hc; cases hc
  · obtain ⟨cur, hc⟩ := own_block h.lst e
    rw [hh] at hc; cases hc
theorem KpS.place {w0 w : World} {b k tot fl mb n i : Nat} {S : Value} {E : Nat → Nat × Cn} (h : KpS w0 w b k tot fl mb S n E i) (hi : i < n) (hb : ∀ j, j < n → (E j).1 ≠ b) (hnod : ∀ i j, i < n → j < n → (E i).1 = (E j).1 → i = j) :
    KpS w0 (w.setCell ⟨(E i).1, 5, none⟩ (.int .i64 i)) b k tot fl mb S n E i ∧ (w.setCell ⟨(E i).1, 5, none⟩ (.int .i64 i)).rowIs (E i).1 60 6 (box6 (E i).2 i) := by
  have hr : (w.setCell ⟨(E i).1, 5, none⟩ (.int .i64 i)).rowIs (E i).1 60 6 (box6 (E i).2 i) := by
    obtain ⟨pl, h1, _⟩ := h.ctr i hi
    refine (h1.set 5 (.int .i64 i)).congr fun q hq => ?_
    match q, hq with
    | 0, _ => rfl
    | 1, _ => rfl
    | 2, _ => rfl
    | 3, _ => rfl
    | 4, _ => rfl
    | 5, _ => rfl
  obtain ⟨m1, m2, m3⟩ := h.mne
  refine ⟨⟨h.box.setOther (fun e => hb i hi e.symm) _, own_setO h.lst (fun e => ?_) _, fun j hj => ?_, ?_, h.ky.trans (ky_set (F := fun q => q = b ∨ ∃ j, j < n ∧ q = (E j).1) w ⟨(E i).1, 5, none⟩ _ (.inr ⟨i, hi, rfl⟩)) fun q hq => .inl hq, h.new⟩, hr⟩
  · obtain ⟨pl, h1, _⟩ := h.ctr i hi
    exact own_ne h1 h.lst (by decide) e.symm
  · by_cases e : j = i
    · subst e; exact ⟨j, hr, fun _ => rfl⟩
    · obtain ⟨pl, h1, h2⟩ := h.ctr j hj
      exact ⟨pl, h1.setOther (a := ⟨(E i).1, 5, none⟩) (fun e' => e (hnod j i hj hi e')) _, h2⟩
  · obtain ⟨es, clk, hh, he⟩ := h.map
    exact ⟨es, clk, by rw [Below.heap_setCell _ _ _ _ (m2 i hi)]; exact hh, he⟩
theorem entsE_succ (E : Nat → Nat × Cn) (n : Nat) : entsE E (n + 1) = entsE E n ++ [((E n).2.key, (E n).1)] := by unfold entsE; rw [lisE_succ, List.map_append]; rfl
theorem KpS.put {w0 w : World} {b k tot fl mb n i : Nat} {S : Value} {E : Nat → Nat × Cn} {o : Obj} (h : KpS w0 w b k tot fl mb S n E i) (hi : i < n) (hr : w.rowIs (E i).1 60 6 (box6 (E i).2 i)) (hm : MapAt (putO w mb o) mb (entsE E i ++ [((E i).2.key, (E i).1)])) : KpS w0 (putO w mb o) b k tot fl mb S n E (i + 1) := by
  obtain ⟨m1, m2, m3⟩ := h.mne
  refine ⟨h.box.of_block (putO_ne (Ne.symm m1)), own_keep h.lst fun g hg => putO_ne fun e => m3 (by rw [← e]; exact hg), fun j hj => ?_, by rw [entsE_succ]; exact hm, ?_, h.new⟩
  · by_cases e : j = i
    · subst e; exact ⟨j, hr.of_block (putO_ne (Ne.symm (m2 j hj))), fun _ => rfl⟩
    · obtain ⟨pl, h1, h2⟩ := h.ctr j hj
      exact ⟨pl, h1.of_block (putO_ne (Ne.symm (m2 j hj))), fun hlt => h2 (by omega)⟩
  · exact ⟨h.ky.os, h.ky.tape, h.ky.output, by have := h.ky.size; simp [putO]; omega, fun q hq hn => by rw [putO_ne (by have := h.new; omega)]; exact h.ky.block q hq hn⟩

set_option maxHeartbeats 2000000 in
theorem keep_any {w : World} {b k tot fl n : Nat} {S : Value} {E : Nat → Nat × Cn} {M Q : Value} (hbx : w.rowIs b 54 5 (box5 (.int .i64 k) (.int .i64 tot) (.int .i64 fl) M Q)) (hls : w.ownsRow 0 57 1 S n (ptrs E n)) (hct : ∀ j, j < n → ∃ pl : Nat, w.rowIs (E j).1 60 6 (box6 (E j).2 pl)) (hb : ∀ q, fq S n E q → q ≠ b) (hnod : ∀ i j, i < n → j < n → (E i).1 = (E j).1 → i = j)
    (hon : Once E n) (hH : Heap n (keyE E)) (hn : n ≤ 2048) :
    Calls Try.prog 22 #[.pointer (some ⟨b, 0, none⟩), S] w fun e w' => e = .returned (.tuple #[]) ∧ ∃ mb, w.heap.size ≤ mb ∧ Of w' b k tot fl mb S n E (entsE E n) ∧ Ky (fun q => q = b ∨ ∃ j, j < n ∧ q = (E j).1) w w' := by
  have hmm := @run_makeMap Try.prog
  have hz : (w.setCell ⟨b, 4, none⟩ S).heap.size = w.heap.size := by simp [World.setCell]
  have hbl := hbx.lt
  have hbn : ¬ b = w.heap.size := by omega
  have hbn' : ¬ w.heap.size = b := by omega
  obtain ⟨a0, k0, hS⟩ : ∃ a0 k0, S = .slice a0 n k0 := by
    rcases hls.2 with ⟨e, h0⟩ | ⟨g, cap, cur, he, _⟩
    · subst h0; exact ⟨none, 0, e⟩
    · exact ⟨_, _, he⟩
  have c3 := hbx.cell (i := 3) (by omega)
  have c4 := hbx.cell (i := 4) (by omega)
  have f3 := hbx.frozen 3
  have f4 := hbx.frozen 4
  simp only [box5] at c3 c4
  have hfl : ∀ q, fq S n E q → q < w.heap.size := fun q hq => by
    rcases hq with hq | ⟨i, hi, rfl⟩
    · exact (hls.lt q hq).2
    · obtain ⟨pl, h1⟩ := hct i hi; exact h1.lt
  have HST : Hid (KpS w (((w.setCell ⟨b, 4, none⟩ S).setCell ⟨b, 3, none⟩ (.map (some w.heap.size))).alloc (.map #[] 0)) b k tot fl w.heap.size S n E 0) := by
    have hbx1 := (World.rowIs.alloc ((hbx.set 4 S).set 3 (.map (some w.heap.size))) (.map #[] 0)).congr (g := box5 (.int .i64 k) (.int .i64 tot) (.int .i64 fl) (.map (some w.heap.size)) S) fun i hi => by
      match i, hi with
      | 0, _ => rfl
      | 1, _ => rfl
      | 2, _ => rfl
      | 3, _ => rfl
      | 4, _ => rfl
    have hk : ∀ q, q < w.heap.size → q ≠ b → (((w.setCell ⟨b, 4, none⟩ S).setCell ⟨b, 3, none⟩ (.map (some w.heap.size))).alloc (.map #[] 0)).heap[q]? = w.heap[q]? := fun q hq hqb => by
      rw [(below_alloc (Below.refl _ ((w.setCell ⟨b, 4, none⟩ S).setCell ⟨b, 3, none⟩ (.map (some w.heap.size)))) _).block q (by simpa [World.setCell] using hq), Below.heap_setCell _ _ _ _ hqb, Below.heap_setCell _ _ _ _ hqb]
    refine ⟨hbx1, own_keep hls fun g hg => hk g (hfl g (.inl hg)) (hb g (.inl hg)), fun j hj => ?_, ⟨#[], 0, ?_, rfl⟩, ⟨rfl, rfl, rfl, by simp [World.setCell], fun q hq hn => hk q hq fun e => hn (.inl e)⟩, Nat.le_refl _⟩
    · obtain ⟨pl, h1⟩ := hct j hj
      exact ⟨pl, h1.of_block (hk _ h1.lt (hb _ (.inr ⟨j, hj, rfl⟩))), fun h => absurd h (Nat.not_lt_zero _)⟩
    · have hpu : ∀ Z : World, Z.heap.size = w.heap.size → (Z.heap.push (.map #[] 0))[w.heap.size]? = some (.map #[] 0) := fun Z hZ => by rw [← hZ, Array.getElem?_push_size]
      exact hpu _ (by simp [World.setCell])
  have HEND : Hid (∀ w', KpS w w' b k tot fl w.heap.size S n E n → ∃ mb, w.heap.size ≤ mb ∧ Of w' b k tot fl mb S n E (entsE E n) ∧ Ky (fun q => q = b ∨ ∃ j, j < n ∧ q = (E j).1) w w') := fun w' h =>
    ⟨w.heap.size, Nat.le_refl _, ⟨h.box, ⟨h.box.cell (i := 4) (by omega), h.lst, fun j hj => by obtain ⟨pl, h1, h2⟩ := h.ctr j hj; rw [h2 hj] at h1; exact h1, hnod⟩, hb, h.map, List.Perm.refl _, hH⟩, h.ky⟩
  have HPL : Hid (∀ wr i, KpS w wr b k tot fl w.heap.size S n E i → i < n → KpS w (wr.setCell ⟨(E i).1, 5, none⟩ (.int .i64 i)) b k tot fl w.heap.size S n E i ∧ (wr.setCell ⟨(E i).1, 5, none⟩ (.int .i64 i)).rowIs (E i).1 60 6 (box6 (E i).2 i)) := fun wr i h hi => h.place hi (fun j hj => hb _ (.inr ⟨j, hj, rfl⟩)) hnod
  have HNO : Hid (∀ i, i < n → atK (entsE E i) (E i).2.key = none) := fun i hi => by
    cases hx : atK (entsE E i) (E i).2.key with
    | none => rfl
    | some jp =>
      obtain ⟨j, p⟩ := jp
      have h1 := List.mem_of_getElem? (atK_some hx)
      obtain ⟨e, he, heq⟩ := List.mem_map.1 h1
      obtain ⟨q, hq, rfl⟩ := List.mem_map.1 he
      simp only [Prod.mk.injEq] at heq
      have hq' := List.mem_range.1 hq
      have := hon q i (by omega) hi heq.1
      omega
  clear hbx hls hct hb hnod hon hH hfl
  rw [hS] at HST HEND HPL ⊢
  go_enter Try.func22, Try.ntmps22
  go_wp2_with fail
  go_loopw [16] (fun s wr => ∃ i : Nat, s = .int .i64 (i : Int) ∧ i ≤ n ∧ Hid (KpS w wr b k tot fl w.heap.size (.slice a0 n k0) n E i)) (fun s _ => n - (intOf s).toNat)
  case atStart => exact ⟨0, rfl, Nat.zero_le _, HST⟩
  case round =>
    obtain ⟨i, rfl, hin, HK⟩ := hrel
    clear c3 c4 f3 f4 HST
    by_cases hi : i < n
    · obtain ⟨lb, cap, hSl⟩ : ∃ lb cap, (Value.slice a0 n k0) = .slice (some ⟨lb, 0, none⟩) n cap := by
        rcases (unhide HK).lst.2 with ⟨_, h0⟩ | ⟨g, cap', cur, he, _⟩
        · omega
        · exact ⟨g, cap', he⟩
      have hpt := (unhide HK).lst
      rw [hSl] at hpt
      have d0 := own_cell hpt (ptrs_at E hi)
      simp only [pv] at d0
      obtain ⟨pl, hr, _⟩ := (unhide HK).ctr i hi
      have d5 := hr.cell (i := 5) (by omega)
      have z5 := hr.frozen 5
      obtain ⟨q1, q2⟩ := unhide HPL wr i (unhide HK) hi
      obtain ⟨p, hp⟩ : ∃ p, (E i).1 = p := ⟨_, rfl⟩
      obtain ⟨X, hX⟩ : ∃ X, wr.setCell ⟨(E i).1, 5, none⟩ (.int .i64 i) = X := ⟨_, rfl⟩
      rw [hX] at q1 q2
      have g3 := q1.box.cell (i := 3) (by omega)
      have u0 := q2.cell (i := 0) (by omega)
      have u1 := q2.cell (i := 1) (by omega)
      have u2 := q2.cell (i := 2) (by omega)
      simp only [box5] at g3
      simp only [box6] at u0 u1 u2
      obtain ⟨o, hrun, hmap⟩ := put_new (W := X.drew) (E i).1 (q1.later (Below.refl _ _).drew).map (unhide HNO i hi)
      simp only [Vk.v, Cn.key] at hrun
      have HN := hide ((q1.later (Below.refl _ _).drew).put hi q2.drew hmap)
      rw [hp] at d0 d5 z5 hX u0 u1 u2 hrun
      have hin' : (i : Int) < (n : Int) := by omega
      cases hSl
      clear q1 q2 hr hmap hpt hp HEND HPL HNO HK
      go_upto_region 6 with fail
      go_region_law (refine step_upd_run rfl 50 _ _ _ rfl (.map (some w.heap.size)) (.agg #[.int .i64 (E i).2.k, .int .i64 (E i).2.n, .string (E i).2.s]) (.pointer (some ⟨p, 0, none⟩)) (by simp [Act.eval, Act.put]) (by simp [Act.eval, Act.put]) (by simp [Act.eval, Act.put]) hrun ?_)
      all_goals
        clear d0 d5 z5 g3 u0 u1 u2 hrun hX
        go_wp2
        go_roundw
        case rel => exact ⟨i + 1, by go_num, by omega, HN⟩
        case measure => simp [intOf]; omega
    · obtain rfl : i = n := by omega
      have HE := hide (unhide HEND _ (unhide HK))
      clear HEND HPL HNO HK
      go_wp2
      go_end0
      exact ⟨rfl, unhide HE⟩
end Go.Proofs.Ytgmfbjehdcdioaa

import Derived.Test.YtgmfbjehdcdioaaOfH
set_option linter.unusedSimpArgs false
set_option linter.unusedVariables false
namespace Go.Proofs.Ytgmfbjehdcdioaa
open Go.RowKit Go.Sort

def upE (E : Nat → Nat × Cn) (n : Nat) (v : Nat × Cn) : Nat → Nat × Cn := fun k => if k = n then v else E k
theorem upE_s (E : Nat → Nat × Cn) (n : Nat) (v : Nat × Cn) : upE E n v n = v := by simp [upE]
theorem upE_o {E : Nat → Nat × Cn} {n k : Nat} {v : Nat × Cn} (h : k ≠ n) : upE E n v k = E k := by simp [upE, h]
theorem ptrs_up (E : Nat → Nat × Cn) (n : Nat) (v : Nat × Cn) : ptrs E n ++ [pv v.1] = ptrs (upE E n v) (n + 1) := by
  unfold ptrs
  rw [List.range_succ, List.map_append]
  congr 1
  · refine List.map_congr_left fun i hi => ?_
    rw [upE_o (by have := List.mem_range.1 hi; omega)]
  · simp [upE_s]
theorem lisE_up (E : Nat → Nat × Cn) (n : Nat) (v : Nat × Cn) : lisE E n ++ [v] = lisE (upE E n v) (n + 1) := by
  unfold lisE
  rw [List.range_succ, List.map_append]
  congr 1
  · refine List.map_congr_left fun i hi => ?_
    rw [upE_o (by have := List.mem_range.1 hi; omega)]
  · simp [upE_s]

/-- One counter more. -/
theorem Qu.pushed {w w5 : World} {b n p pl : Nat} {S S' : Value} {E : Nat → Nat × Cn} {F : Nat → Value} {x : Cn} {o : Obj} (h : Qu w b S n E) (hbx : w.rowIs b 54 5 F) (hb : ∀ k, fq S n E k → k ≠ b) (hp : w.rowIs p 60 6 (box6 x pl)) (hpb : p ≠ b) (hpq : ¬ fq S n E p)
    (ho : w5.ownsRow 0 57 1 S' (n + 1) (ptrs E n ++ [pv p])) (hg : ((w.setCell ⟨p, 5, none⟩ (.int .i64 n)).alloc o).grownBy w5 S.ownBlock) (hat : S'.ownBlock = S.ownBlock ∨ S'.ownBlock = some ((w.setCell ⟨p, 5, none⟩ (.int .i64 n)).alloc o).heap.size) :
    w5.rowIs b 54 5 F ∧ Qu (w5.setCell ⟨b, 4, none⟩ S') b S' (n + 1) (upE E n (p, x)) ∧ (w5.setCell ⟨b, 4, none⟩ S').rowIs b 54 5 (fun j => if j = 4 then S' else F j) ∧
    Ky (fun k => fq S n E k ∨ k = b ∨ k = p) w (w5.setCell ⟨b, 4, none⟩ S') ∧ ∀ k, fq S' (n + 1) (upE E n (p, x)) k → fq S n E k ∨ k = p ∨ w.heap.size ≤ k := by
  have hsz : ((w.setCell ⟨p, 5, none⟩ (.int .i64 n)).alloc o).heap.size = w.heap.size + 1 := by simp [World.setCell]
  have hlow : ∀ k, k < w.heap.size → k ≠ p → ((w.setCell ⟨p, 5, none⟩ (.int .i64 n)).alloc o).heap[k]? = w.heap[k]? := fun k hk hkp => by
    rw [(below_alloc (Below.refl _ _) o).block k (by simpa [World.setCell] using hk), Below.heap_setCell _ _ _ _ hkp]
  have h5 : ∀ k, k < w.heap.size → k ≠ p → S.ownBlock ≠ some k → w5.heap[k]? = w.heap[k]? := fun k hk hkp hne => by
    rw [hg.block k (by rw [hsz]; omega) (fun e => hne e.symm)]; exact hlow k hk hkp
  have hbS : S.ownBlock ≠ some b := fun e => hb b (.inl e) rfl
  have hbS' : S'.ownBlock ≠ some b := fun e => by
    rcases hat with q | q
    · rw [q] at e; exact hbS e
    · rw [hsz] at q; rw [q] at e; cases e; have := hbx.lt; omega
  have hb5 : w5.rowIs b 54 5 F := hbx.of_block (h5 b hbx.lt (Ne.symm hpb) hbS)
  have hp1 : ((w.setCell ⟨p, 5, none⟩ (.int .i64 n)).alloc o).rowIs p 60 6 (box6 x n) := by
    refine World.rowIs.alloc ((hp.set 5 _).congr fun i hi => ?_) o
    match i, hi with
    | 0, _ => rfl
    | 1, _ => rfl
    | 2, _ => rfl
    | 3, _ => rfl
    | 4, _ => rfl
    | 5, _ => rfl
  have hpS : S.ownBlock ≠ some p := fun e => hpq (.inl e)
  have hp5 : w5.rowIs p 60 6 (box6 x n) := hp1.of_block (hg.block p hp1.lt (fun e => hpS e.symm))
  have hbox := hb5.set 4 S'
  refine ⟨hb5, ⟨?_, ?_, fun i hi => ?_, fun i j hi hj e => ?_⟩, hbox, ?_, ?_⟩
  · have := hbox.cell (i := 4) (by omega); simpa using this
  · rw [show ptrs E n ++ [pv p] = _ from ptrs_up E n (p, x)] at ho; exact own_setO ho hbS' _
  · by_cases e : i = n
    · subst e; rw [upE_s]; exact hp5.setOther hpb _
    · rw [upE_o e]
      have hi' : i < n := by omega
      have hr := h.ctr i hi'
      have hrS : S.ownBlock ≠ some (E i).1 := fun q => own_ne hr h.lst (by decide) q.symm
      exact (hr.of_block (h5 _ hr.lt (fun q => hpq (.inr ⟨i, hi', q.symm⟩)) hrS)).setOther (hb _ (.inr ⟨i, hi', rfl⟩)) _
  · by_cases e1 : i = n
    · by_cases e2 : j = n
      · omega
      · subst e1
        rw [upE_s, upE_o e2] at e
        exact absurd (.inr ⟨j, by omega, e⟩) hpq
    · by_cases e2 : j = n
      · subst e2
        rw [upE_o e1, upE_s] at e
        exact absurd (.inr ⟨i, by omega, e.symm⟩) hpq
      · rw [upE_o e1, upE_o e2] at e
        exact h.nod i j (by omega) (by omega) e
  · have hy : Ky (fun k => fq S n E k ∨ k = b ∨ k = p) w w5 := ⟨hg.os, hg.tape, hg.output, by have := hg.size; omega, fun k hk hn => h5 k hk (fun e => hn (.inr (.inr e))) (fun e => hn (.inl (.inl e)))⟩
    exact hy.trans (ky_set (F := fun k => fq S n E k ∨ k = b ∨ k = p) w5 ⟨b, 4, none⟩ S' (.inr (.inl rfl))) fun i hi => .inl hi
  · rintro k (hk | ⟨i, hi, rfl⟩)
    · rcases hat with q | q
      · exact .inl (.inl (by rw [← q]; exact hk))
      · rw [q, hsz] at hk; cases hk; exact .inr (.inr (by omega))
    · by_cases e : i = n
      · subst e; rw [upE_s]; exact .inr (.inl rfl)
      · rw [upE_o e]; exact .inl (.inr ⟨i, by omega, rfl⟩)

/-- What queue.Push leaves. -/
def PuA (w : World) (b : Nat) (S : Value) (n p : Nat) (E : Nat → Nat × Cn) (F : Nat → Value) (x : Cn) (e : Ending) (w' : World) : Prop :=
  e = .returned (.tuple #[]) ∧ ∃ S', Qu w' b S' (n + 1) (upE E n (p, x)) ∧ w'.rowIs b 54 5 (fun j => if j = 4 then S' else F j) ∧ Ky (fun k => fq S n E k ∨ k = b ∨ k = p) w w' ∧ ∀ k, fq S' (n + 1) (upE E n (p, x)) k → fq S n E k ∨ k = p ∨ w.heap.size ≤ k

set_option maxHeartbeats 1000000 in
set_option maxRecDepth 100000 in
theorem qpush_any {w : World} {b n p pl : Nat} {S : Value} {E : Nat → Nat × Cn} {F : Nat → Value} {x : Cn} (h : Qu w b S n E) (hbx : w.rowIs b 54 5 F) (hF : F 4 = S) (hb : ∀ k, fq S n E k → k ≠ b) (hp : w.rowIs p 60 6 (box6 x pl)) (hpb : p ≠ b) (hpq : ¬ fq S n E p) (hn : n ≤ 2000) :
    Calls Try.prog 97 #[.pointer (some ⟨b, 4, none⟩), .iface 57 (.pointer (some ⟨p, 0, none⟩))] w fun e w' => PuA w b S n p E F x e w' := by
  obtain ⟨i2, hi2, z20, z21, z22⟩ := info_parts Try.info57
  have c0 := h.cell
  have c1 := hp.cell (i := 5) (by omega)
  have f1 := hp.frozen 5
  have f4 := hbx.frozen 4
  obtain ⟨a0, k0, hS⟩ : ∃ a0 k0, S = .slice a0 n k0 := by
    rcases h.lst.2 with ⟨e, h0⟩ | ⟨g, cap, cur, he, _⟩
    · subst h0; exact ⟨none, 0, e⟩
    · exact ⟨_, _, he⟩
  subst hS
  have hwz : (w.setCell ⟨p, 5, none⟩ (.int .i64 n)).heap.size = w.heap.size := by simp [World.setCell]
  have HNW := cell_one_new (w.setCell ⟨p, 5, none⟩ (.int .i64 n)) (.pointer (some ⟨p, 0, none⟩)) 57
  rw [hwz] at HNW
  have HNW' := hide HNW
  clear HNW hwz
  have hta : ∀ W : World, (Instr.typeAssert (.iface 57 (.pointer (some ⟨p, 0, none⟩))) 20 57 false).run Try.prog W = .ok (.pointer (some ⟨p, 0, none⟩)) W := fun W => by kernel_rfl
  have hpb' : ¬ b = p := fun e => hpb e.symm
  have HFIN : Hid (∀ S' w5 o, w5.ownsRow 0 57 1 S' (n + 1) (ptrs E n ++ [pv p]) → ((w.setCell ⟨p, 5, none⟩ (.int .i64 n)).alloc o).grownBy w5 (Value.slice a0 n k0).ownBlock → (S'.ownBlock = (Value.slice a0 n k0).ownBlock ∨ S'.ownBlock = some ((w.setCell ⟨p, 5, none⟩ (.int .i64 n)).alloc o).heap.size) →
      ∃ g5 c5, S' = .slice (some ⟨g5, 0, none⟩) (n + 1) c5 ∧ w5.cell? ⟨b, 4, none⟩ = some (.slice a0 n k0) ∧ w5.frozen? ⟨b, 4, none⟩ = false ∧ Hid (PuA w b (.slice a0 n k0) n p E F x (.returned (.tuple #[])) (w5.setCell ⟨b, 4, none⟩ S'))) := fun S' w5 o h1 h2 h3 => by
    obtain ⟨q0, q1⟩ := h.pushed hbx hb hp hpb hpq h1 h2 h3
    have hc := q0.cell (i := 4) (by omega)
    rw [hF] at hc
    rcases h1.2 with ⟨_, h0⟩ | ⟨g, cap, cur, he, _⟩
    · omega
    · exact ⟨g, cap, he, hc, q0.frozen 4, rfl, S', q1⟩
  have HO : Hid ((w.setCell ⟨p, 5, none⟩ (.int .i64 n)).ownsRow 0 57 1 (.slice a0 n k0) n (ptrs E n)) := own_setO h.lst (fun e => hpq (.inl e)) _
  clear h hbx hb hp hpq
  go_enter Try.func97, Try.ntmps97
  go_wp2_with (at_builtin; refine wpList_append_own_at _ rfl (.tmp 17) (.tmp 19) 52 rfl 0 57 i2 (.pointer none) 1 8 Try.underlying52 hi2 z20 z21 z22 rfl (by decide) (.slice a0 n k0) n (ptrs E n) rfl (World.ownsRow.alloc (unhide HO) _) ⟨w.heap.size, 0, none⟩ 1 1 [.pointer (some ⟨p, 0, none⟩)] rfl rfl (unhide HNW') (by intro u hu; simp at hu; subst hu; rfl) (by unfold maxLen; omega) (by omega) (Nat.zero_le _) ?_; intro v5 w5 hown5 hgrow5 _ hat5; obtain ⟨g5, c5, rfl, d4, e4, HR⟩ := unhide HFIN v5 w5 _ hown5 hgrow5 hat5; clear hown5 hgrow5 hat5)
  go_end0
  exact unhide HR
end Go.Proofs.Ytgmfbjehdcdioaa

import Derived.Test.YtgmfbjehdcdioaaOfN
set_option linter.unusedSimpArgs false
set_option linter.unusedVariables false
set_option maxRecDepth 100000
namespace Go.Proofs.Ytgmfbjehdcdioaa
open Go.RowKit Go.Sort

def Cn.bump (x : Cn) (m : Nat) : Cn := ⟨x.k, x.n, x.s, x.lo + m, x.hi + m⟩
theorem Qu.bump {w : World} {b n i m : Nat} {S : Value} {E : Nat → Nat × Cn} (h : Qu w b S n E) (hb : ∀ k, fq S n E k → k ≠ b) (hi : i < n) {a c : Int} (ha : a = (((E i).2.lo + m : Nat) : Int)) (hc : c = (((E i).2.hi + m : Nat) : Int)) :
    Qu ((w.setCell ⟨(E i).1, 3, none⟩ (.int .i64 a)).setCell ⟨(E i).1, 4, none⟩ (.int .i64 c)) b S n (upE E i ((E i).1, (E i).2.bump m)) ∧ Ky (fq S n E) w ((w.setCell ⟨(E i).1, 3, none⟩ (.int .i64 a)).setCell ⟨(E i).1, 4, none⟩ (.int .i64 c)) ∧ ∀ k, fq S n (upE E i ((E i).1, (E i).2.bump m)) k ↔ fq S n E k := by
  subst ha hc
  have hpb : (E i).1 ≠ b := hb _ (.inr ⟨i, hi, rfl⟩)
  have hoth : ∀ k, k ≠ (E i).1 → ((w.setCell ⟨(E i).1, 3, none⟩ (.int .i64 (((E i).2.lo + m : Nat) : Int))).setCell ⟨(E i).1, 4, none⟩ (.int .i64 (((E i).2.hi + m : Nat) : Int))).heap[k]? = w.heap[k]? := fun k hk => by
    rw [Below.heap_setCell _ _ _ _ hk, Below.heap_setCell _ _ _ _ hk]
  have hfst : ∀ q, (upE E i ((E i).1, (E i).2.bump m) q).1 = (E q).1 := fun q => by
    by_cases e : q = i
    · subst e; rw [upE_s]
    · rw [upE_o e]
  have hpt : ptrs (upE E i ((E i).1, (E i).2.bump m)) n = ptrs E n := by
    unfold ptrs; exact List.map_congr_left fun q _ => by rw [hfst]
  have hfq : ∀ k, fq S n (upE E i ((E i).1, (E i).2.bump m)) k ↔ fq S n E k := fun k => by
    unfold fq; simp only [hfst]
  refine ⟨⟨?_, ?_, fun q hq => ?_, fun q q' hq hq' e => h.nod q q' hq hq' (by rw [hfst, hfst] at e; exact e)⟩, ⟨rfl, rfl, rfl, by simp [World.setCell], fun k _ hn => hoth k fun e => hn (.inr ⟨i, hi, e⟩)⟩, hfq⟩
  · rw [← h.cell]; unfold World.cell?; rw [hoth b (Ne.symm hpb)]
  · rw [hpt]; exact own_keep h.lst fun g hg => hoth g fun e => own_ne (h.ctr i hi) h.lst (by decide) (by rw [hg, e])
  · by_cases e : q = i
    · subst e
      rw [upE_s]
      refine (((h.ctr q hq).set 3 _).set 4 _).congr fun z hz => ?_
      match z, hz with
      | 0, _ => rfl
      | 1, _ => rfl
      | 2, _ => rfl
      | 3, _ => rfl
      | 4, _ => rfl
      | 5, _ => rfl
    · rw [upE_o e]
      exact (h.ctr q hq).of_block (hoth _ fun e' => e (h.nod q i hq hi e'))
theorem key_bump (E : Nat → Nat × Cn) (i m : Nat) : ∀ k, k ≠ i → keyE (upE E i ((E i).1, (E i).2.bump m)) k = keyE E k := fun k hk => by unfold keyE; rw [upE_o hk]
theorem ents_bump (E : Nat → Nat × Cn) (i m n : Nat) : entsE (upE E i ((E i).1, (E i).2.bump m)) n = entsE E n := by
  unfold entsE lisE
  rw [List.map_map, List.map_map]
  refine List.map_congr_left fun q _ => ?_
  simp only [Function.comp]
  by_cases e : q = i
  · subst e; rw [upE_s]; rfl
  · rw [upE_o e]

/-- The blocks of a sketch. -/
def footO (b mb : Nat) (S : Value) (n : Nat) (E : Nat → Nat × Cn) (k : Nat) : Prop := k = b ∨ k = mb ∨ fq S n E k
theorem Of.mapne {w : World} {b k tot fl mb n : Nat} {S : Value} {E : Nat → Nat × Cn} {L : List (Vk × Nat)} (h : Of w b k tot fl mb S n E L) : ¬ fq S n E mb ∧ mb ≠ b := by
  obtain ⟨es, clk, hh, _⟩ := h.map
  refine ⟨fun hf => ?_, fun e => ?_⟩
  · rcases hf with hf | ⟨i, hi, e⟩
    · obtain ⟨cur, hc⟩ := own_block h.qu.lst hf
      rw [hh] at hc; cases hc
    · obtain ⟨c, hc, _⟩ := h.qu.ctr i hi
      rw [← e, hh] at hc; cases hc
  · obtain ⟨c, hc, _⟩ := h.box
    rw [← e, hh] at hc; cases hc

/-- More of a value that is counted: the stores and heap.Fix. -/
theorem Of.more {w w' : World} {b k tot fl mb n i m : Nat} {S : Value} {E E' : Nat → Nat × Cn} {L : List (Vk × Nat)} (h : Of w b k tot fl mb S n E L) (hi : i < n) {W : World} (hW : Ky (fq S n E) w W) (hq : QuN W b S n (upE E i ((E i).1, (E i).2.bump m)) w' E') (hfq : ∀ k, fq S n (upE E i ((E i).1, (E i).2.bump m)) k ↔ fq S n E k) (hH : Heap n (keyE E')) :
    Of w' b k tot fl mb S n E' L ∧ Ky (footO b mb S n E) w w' ∧ (∀ k, fq S n E' k → fq S n E k) ∧ (lisE E' n).Perm (lisE (upE E i ((E i).1, (E i).2.bump m)) n) := by
  have hk : Ky (fq S n E) w w' := hW.trans hq.ky fun k hk => .inl ((hfq k).1 hk)
  have hsub : ∀ k, fq S n E' k → fq S n E k := fun k hk => (hfq k).1 (hq.sub k hk)
  obtain ⟨n1, n2⟩ := h.mapne
  refine ⟨⟨h.box.of_block (hk.block b h.box.lt fun hf => h.ne b hf rfl), hq.q, fun k hk => h.ne k (hsub k hk), ?_, ?_, hH⟩, hk.less fun k _ hf => .inr (.inr hf), hsub, hq.perm⟩
  · obtain ⟨es, clk, hh, he⟩ := h.map
    exact ⟨es, clk, by rw [hk.block mb (Array.getElem?_eq_some_iff.1 hh).1 n1]; exact hh, he⟩
  · refine h.same.trans ?_
    have := (hq.perm.map fun e : Nat × Cn => (e.2.key, e.1)).symm
    have e : (lisE (upE E i ((E i).1, (E i).2.bump m)) n).map (fun e : Nat × Cn => (e.2.key, e.1)) = entsE E n := ents_bump E i m n
    rw [e] at this
    exact this
end Go.Proofs.Ytgmfbjehdcdioaa

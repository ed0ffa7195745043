import Derived.Test.YtgmfbjehdcdioaaOfI
set_option linter.unusedSimpArgs false
set_option linter.unusedVariables false
namespace Go.Proofs.Ytgmfbjehdcdioaa
open Go.RowKit Go.Sort

/-- What heap.Push leaves. -/
def HpA (w : World) (b : Nat) (S : Value) (n p : Nat) (E : Nat → Nat × Cn) (F : Nat → Value) (x : Cn) (e : Ending) (w' : World) : Prop :=
  e = .returned (.tuple #[]) ∧ ∃ S' E', Qu w' b S' (n + 1) E' ∧ Heap (n + 1) (keyE E') ∧ (lisE E' (n + 1)).Perm (lisE E n ++ [(p, x)]) ∧ w'.rowIs b 54 5 (fun j => if j = 4 then S' else F j) ∧ (∀ k, fq S' (n + 1) E' k → k ≠ b) ∧
    Ky (fun k => fq S n E k ∨ k = b ∨ k = p) w w' ∧ ∀ k, fq S' (n + 1) E' k → fq S n E k ∨ k = p ∨ w.heap.size ≤ k

set_option maxHeartbeats 1000000 in
set_option maxRecDepth 100000 in
theorem hpush_any {w : World} {b n p pl : Nat} {S : Value} {E : Nat → Nat × Cn} {F : Nat → Value} {x : Cn} (h : Qu w b S n E) (hH : Heap n (keyE E)) (hbx : w.rowIs b 54 5 F) (hF : F 4 = S) (hb : ∀ k, fq S n E k → k ≠ b) (hp : w.rowIs p 60 6 (box6 x pl)) (hpb : p ≠ b) (hpq : ¬ fq S n E p) (hn : n ≤ 1999) :
    Calls Try.prog 37 #[.iface 82 (.pointer (some ⟨b, 4, none⟩)), .iface 57 (.pointer (some ⟨p, 0, none⟩))] w fun e w' => HpA w b S n p E F x e w' := by
  have HPU := hide (qpush_any h hbx hF hb hp hpb hpq (by omega))
  have hbl := hbx.lt
  have mp := mPush ⟨b, 4, none⟩ w
  have HUP : Hid (∀ w2 S', Qu w2 b S' (n + 1) (upE E n (p, x)) → w2.rowIs b 54 5 (fun j => if j = 4 then S' else F j) → Ky (fun k => fq S n E k ∨ k = b ∨ k = p) w w2 → (∀ k, fq S' (n + 1) (upE E n (p, x)) k → fq S n E k ∨ k = p ∨ w.heap.size ≤ k) →
      Calls Try.prog 54 #[.iface 82 (.pointer (some ⟨b, 4, none⟩)), .int .i64 n] w2 fun e w' => HpA w b S n p E F x e w') := fun w2 S' q1 q2 q3 q4 => by
    have hb2 : ∀ k, fq S' (n + 1) (upE E n (p, x)) k → k ≠ b := fun k hk => by
      rcases q4 k hk with g | g | g
      · exact hb k g
      · rw [g]; exact hpb
      · omega
    refine (up_any q1 hb2 (j := n) (by omega) (by omega) (hH.more fun k hk => by simp only [keyE]; rw [upE_o (by omega)])).mono ?_
    rintro e w3 ⟨rfl, E3, r1, r2⟩
    refine ⟨rfl, S', E3, r1.q, r2, ?_, q2.of_block (r1.ky.block b q2.lt fun hf => hb2 b hf rfl), fun k hk => hb2 k (r1.sub k hk), q3.trans r1.ky fun k hk => ?_, fun k hk => q4 k (r1.sub k hk)⟩
    · rw [lisE_up]; exact r1.perm
    · rcases q4 k hk with g | g | g
      · exact .inl (.inl g)
      · exact .inl (.inr (.inr g))
      · exact .inr g
  clear h hH hbx hb hp hpq
  go_enter Try.func37, Try.ntmps37
  go_wp2_with (go_at_call 97; refine (unhide HPU).mono ?_; rintro _ w2 ⟨rfl, S', q1, q2, q3, q4⟩; have HU := hide (unhide HUP w2 S' q1 q2 q3 q4); obtain ⟨lb, cap, hS'⟩ := q1.slice (by omega); have ml := mLen (W := w2) q1.cell; rw [hS'] at ml; clear q1 q2 q3 q4)
  refine (len_any _ _ _ _).mono ?_
  rintro _ _ ⟨rfl, rfl⟩
  go_wp2_with fail
  refine (unhide HU).mono ?_
  rintro e w3 hR
  have he := hR.1
  subst he
  go_wp2
  go_end0
  exact hR

theorem own_cut {w : World} {g n cap : Nat} {xs : List Value} (h : w.ownsRow 0 57 1 (.slice (some ⟨g, 0, none⟩) (n + 1) cap) (n + 1) xs) : w.ownsRow 0 57 1 (.slice (some ⟨g, 0, none⟩) n cap) n (xs.take n) := by
  rcases h.2 with ⟨e, _⟩ | ⟨g', cap', cur, he, h3, h4, h5, h6, h7, h8⟩
  · cases e
  · cases he
    have hl := h.1
    refine ⟨by rw [List.length_take]; omega, .inr ⟨g, cap, cur, rfl, h3, h4, by omega, h6, h7, ?_⟩⟩
    rw [← h8, List.take_take]; congr 1; omega
theorem ptrs_take (E : Nat → Nat × Cn) (n : Nat) (v : Value) : ((ptrs E (n + 1)).set n v).take n = ptrs E n := by
  apply List.ext_getElem?
  intro m
  rw [List.getElem?_take]
  by_cases hm : m < n
  · rw [if_pos hm, List.getElem?_set_ne (by omega), ptrs_at _ (by omega), ptrs_at _ hm]
  · rw [if_neg hm, List.getElem?_eq_none (by simp [ptrs_len]; omega)]

/-- The last one goes. -/
theorem Qu.popped {w : World} {b n lb cap : Nat} {S : Value} {E : Nat → Nat × Cn} {F : Nat → Value} (h : Qu w b S (n + 1) E) (hS : S = .slice (some ⟨lb, 0, none⟩) (n + 1) cap) (hbx : w.rowIs b 54 5 F) (hb : ∀ k, fq S (n + 1) E k → k ≠ b) :
    Qu ((w.setCell ⟨lb, n, none⟩ (.pointer none)).setCell ⟨b, 4, none⟩ (.slice (some ⟨lb, 0, none⟩) n cap)) b (.slice (some ⟨lb, 0, none⟩) n cap) n E ∧
    ((w.setCell ⟨lb, n, none⟩ (.pointer none)).setCell ⟨b, 4, none⟩ (.slice (some ⟨lb, 0, none⟩) n cap)).rowIs b 54 5 (fun j => if j = 4 then .slice (some ⟨lb, 0, none⟩) n cap else F j) ∧
    Ky (fun k => fq S (n + 1) E k ∨ k = b) w ((w.setCell ⟨lb, n, none⟩ (.pointer none)).setCell ⟨b, 4, none⟩ (.slice (some ⟨lb, 0, none⟩) n cap)) ∧ ∀ k, fq (.slice (some ⟨lb, 0, none⟩) n cap) n E k → fq S (n + 1) E k := by
  have hSo : S.ownBlock = some lb := by rw [hS]; rfl
  have hlb : b ≠ lb := fun e => hb lb (.inl hSo) e.symm
  have hbox := (hbx.setOther (a := ⟨lb, n, none⟩) hlb (.pointer none)).set 4 (.slice (some ⟨lb, 0, none⟩) n cap)
  have hl := h.lst
  rw [hS] at hl
  have h1 := own_cut (own_store hl (i := n) (by omega) (.pointer none))
  rw [ptrs_take] at h1
  refine ⟨⟨?_, own_setO h1 (fun e => hlb (by simpa [Value.ownBlock] using e.symm)) _, fun i hi => ?_, fun i j hi hj e => h.nod i j (by omega) (by omega) e⟩, hbox, ?_, ?_⟩
  · have := hbox.cell (i := 4) (by omega); simpa using this
  · exact ((h.ctr i (by omega)).setOther (a := ⟨lb, n, none⟩) (h.lb_ne hS (by omega)) _).setOther (a := ⟨b, 4, none⟩) (hb _ (.inr ⟨i, by omega, rfl⟩)) _
  · exact (ky_set (F := fun k => fq S (n + 1) E k ∨ k = b) w ⟨lb, n, none⟩ (.pointer none) (.inl (.inl hSo))).trans (ky_set (F := fun k => fq S (n + 1) E k ∨ k = b) _ ⟨b, 4, none⟩ _ (.inr rfl)) fun i hi => .inl hi
  · rintro k (hk | ⟨i, hi, rfl⟩)
    · exact .inl (by rw [hSo]; exact hk)
    · exact .inr ⟨i, by omega, rfl⟩
end Go.Proofs.Ytgmfbjehdcdioaa

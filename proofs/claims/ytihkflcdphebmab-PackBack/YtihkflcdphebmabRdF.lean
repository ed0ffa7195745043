import Derived.Test.YtihkflcdphebmabRdD
import Derived.Test.YtihkflcdphebmabPackU
set_option linter.unusedSimpArgs false
set_option linter.unusedVariables false
namespace Go.Proofs.Ytihkflcdphebmab
open Go.RowKit Go.Sort

theorem OwnV.gr {w w' : World} {B b : Nat} {u : Value} {xs : List Val} (h : OwnV w B u xs) (hg : Gr w w' b) (hb : b < B) : OwnV w' B u xs := by
  refine ⟨h.1, ?_⟩
  rcases h.2 with h1 | ⟨g, cap, cur, hv, hB, hh, rest⟩
  · exact .inl h1
  · refine .inr ⟨g, cap, cur, hv, hB, ?_, rest⟩
    rw [hg.block g (World.ownsRow.lt h g (by rw [hv]; rfl)).2 (fun e => by injection e with e; omega)]
    exact hh
/-- An own row has grown behind a new block. -/
theorem Gr.app {w wr w1 : World} {b : Nat} {v : Value} {o : Obj} {xs : List Val} (h : Gr w wr b) (ho : OwnV wr w.heap.size v xs) (hg : (wr.alloc o).grownBy w1 v.ownBlock) : Gr w w1 b := by
  refine ⟨hg.os.trans h.os, hg.tape.trans h.tape, hg.output.trans h.output, ?_, fun i hi hne => ?_⟩
  · have := hg.size; have := h.size; simp at *; omega
  · have h2 := h.size
    rw [hg.block i (by simp; omega) (fun e => by have := (World.ownsRow.lt ho i e.symm).1; omega), Below.heap_alloc _ _ _ (by omega), h.block i hi hne]
theorem Rd.app {wr w1 : World} {b B : Nat} {v : Value} {o : Obj} {xs : List Val} {l : List UInt8} (hr : Rd wr b l) (ho : OwnV wr B v xs) (hb : b < B) (hg : (wr.alloc o).grownBy w1 v.ownBlock) : Rd w1 b l := by
  have hl := hr.ne
  refine World.rowIs.of_block hr ?_
  rw [hg.block b (by simp; omega) (fun e => by have := (World.ownsRow.lt ho b e.symm).1; omega), Below.heap_alloc _ _ _ hl]
theorem plainsD_len {kind : Int} : ∀ {n : Nat} {l r : List UInt8} {vs : List Val}, plainsD kind n l = some (vs, r) → vs.length = n ∧ r.length ≤ l.length
  | 0, l, r, vs, h => by
    unfold plainsD at h
    injection h with h; injection h with h1 h2
    subst h1; subst h2; exact ⟨rfl, Nat.le_refl _⟩
  | n + 1, l, r, vs, h => by
    unfold plainsD at h
    cases hp : plainsD kind n l with
    | none => rw [hp] at h; cases h
    | some p =>
      rw [hp, Option.bind_some] at h
      cases hq : plainD kind p.2 with
      | none => rw [hq] at h; cases h
      | some q =>
        rw [hq] at h
        injection h with h; injection h with h1 h2
        obtain ⟨a, c⟩ := plainsD_len (vs := p.1) (r := p.2) hp
        have := plainD_le hq
        subst h1; subst h2
        exact ⟨by simp [a], by omega⟩
theorem plainsD_step {kind : Int} {k : Nat} {l r r2 : List UInt8} {vs : List Val} {x : Val} (h : plainsD kind k l = some (vs, r)) (hx : plainD kind r = some (x, r2)) : plainsD kind (k + 1) l = some (vs ++ [x], r2) := by
  rw [plainsD, h, Option.bind_some, hx]; rfl
theorem plainsD_stuck {kind : Int} {k : Nat} {l r : List UInt8} {vs : List Val} (h : plainsD kind k l = some (vs, r)) (hx : plainD kind r = none) : ∀ n, k < n → plainsD kind n l = none := by
  intro n hn
  obtain ⟨j, rfl⟩ : ∃ j, n = k + 1 + j := ⟨n - k - 1, by omega⟩
  clear hn
  induction j with
  | zero => show plainsD kind (k + 1) l = none; rw [plainsD, h, Option.bind_some, hx]; rfl
  | succ j ih => show plainsD kind (k + 1 + j + 1) l = none; rw [plainsD, ih]; rfl
/-- What plains ends with. -/
def PlainsR (w w' : World) (e : Ending) (b : Nat) (o : Option (List Val × List UInt8)) : Prop :=
  (∃ vs r v, o = some (vs, r) ∧ e = .returned v ∧ OwnV w' w.heap.size v vs ∧ Rd w' b r ∧ Gr w w' b) ∨ (o = none ∧ e = dmg ∧ Gr w w' b)
set_option maxHeartbeats 2000000 in
set_option maxRecDepth 100000 in
theorem plains_any (b n : Nat) (kind : Int) (l : List UInt8) (w : World) (hk : kind = 1 ∨ kind = 2) (hn : n ≤ 100000) (h : Rd w b l) (hl : l.length ≤ 140737488355328) :
    Calls Try.prog 100 #[.pointer (some ⟨b, 0, none⟩), .int .i64 kind, .int .i64 n] w fun e w' => PlainsR w w' e b (plainsD kind n l) := by
  obtain ⟨i4, hi4, z40, z41, z42⟩ := info_parts Try.info40
  have hb0 := h.ne
  go_enter Try.func100, Try.ntmps100
  go_wp2_with fail
  go_loopw [7, 9] (fun v i wr => ∃ (k : Nat) (vs : List Val) (r : List UInt8), k ≤ n ∧ i = .int .i64 (k : Int) ∧ Hid (plainsD kind k l = some (vs, r)) ∧ OwnV wr w.heap.size v vs ∧ Rd wr b r ∧ Gr w wr b) (fun _ i _ => n - (intOf i).toNat)
  case atStart => exact ⟨0, [], l, Nat.zero_le _, rfl, rfl, ⟨rfl, .inl ⟨rfl, rfl⟩⟩, h, Gr.refl _ _⟩
  case round =>
    obtain ⟨k, vs, r, hkn, rfl, HP, ho, hr, hg⟩ := hrel
    obtain ⟨hvl, hrl⟩ := plainsD_len (unhide HP)
    have HVL := hide hvl
    by_cases hlt : k < n
    · have h9 : (k : Int) < (n : Int) := by omega
      cases hx : plainD kind r with
      | none =>
        have HN := hide (plainsD_stuck (unhide HP) hx n hlt)
        have HC := hide (plain_no hk hr (by omega) hx)
        have HG := hide hg
        clear hx hg ho hr hvl
        go_wp2_with (go_at_call 115; refine (unhide HC).mono ?_; rintro e w1 ⟨rfl, hg1⟩)
        exact ⟨rfl, .inr ⟨unhide HN, rfl, (unhide HG).trans hg1⟩⟩
      | some p =>
        obtain ⟨x, r2⟩ := p
        have HN := hide (plainsD_step (unhide HP) hx)
        have HC := hide (plain_yes hk hr (by omega) hx)
        have HG := hide hg
        have HO := hide ho
        have hsz := hg.size
        clear hx hg ho hr hvl
        go_wp2_with (first
          | (go_at_call 115; refine (unhide HC).mono ?_; rintro e w2 ⟨rfl, hr2, hg2⟩; rw [Val.open_]; have ho2 := (unhide HO).gr hg2 hb0; have hG2 := (unhide HG).trans hg2; have hsz2 := hg2.size)
          | (at_builtin; refine wpList_append_own_at _ rfl (.tmp 11) (.tmp 15) 22 rfl w.heap.size 40 i4 (.agg #[.int .i64 0, .int .i64 0, .string ⟨#[]⟩]) 3 32 Try.underlying22 hi4 z40 z41 z42 rfl (by decide) _ _ _ rfl (World.ownsRow.alloc ho2 _) ⟨w2.heap.size, 0, none⟩ 1 1 (c3 x) rfl rfl (cells3_new w2 x) (c3_one _) (by rw [unhide HVL]; unfold maxLen; omega) (by rw [unhide HVL]; omega) (by simp; omega) ?_; intro v1 w3 hown1 hgrow1 _ hat1; have ho3 := ownV_app hown1))
        go_roundw
        case rel => exact ⟨k + 1, vs ++ [x], r2, by omega, by go_num, HN, ho3, hr2.app ho2 hb0 hgrow1, hG2.app ho2 hgrow1⟩
        case measure => simp [intOf]; omega
    · have h9 : ¬ (k : Int) < (n : Int) := by omega
      have ek : k = n := by omega
      subst ek
      have HO := hide (⟨ho, hr, hg⟩ : OwnV wr w.heap.size u7 vs ∧ Rd wr b r ∧ Gr w wr b)
      clear ho hr hg hvl
      go_wp2
      go_ret
      exact .inl ⟨vs, r, _, unhide HP, rfl, unhide HO⟩
end Go.Proofs.Ytihkflcdphebmab

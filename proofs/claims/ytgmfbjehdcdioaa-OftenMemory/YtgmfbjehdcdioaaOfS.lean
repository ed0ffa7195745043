import Derived.Test.YtgmfbjehdcdioaaOfR
set_option linter.unusedSimpArgs false
set_option linter.unusedVariables false
set_option maxRecDepth 100000
namespace Go.Proofs.Ytgmfbjehdcdioaa
open Go.RowKit Go.Sort

theorem Of.put2 {w : World} {b k tot fl f' mb n : Nat} {S : Value} {E : Nat → Nat × Cn} {L : List (Vk × Nat)} (h : Of w b k tot fl mb S n E L) : Of (w.setCell ⟨b, 2, none⟩ (.int .i64 f')) b k tot f' mb S n E L ∧ Ky (footO b mb S n E) w (w.setCell ⟨b, 2, none⟩ (.int .i64 f')) := by
  obtain ⟨n1, n2⟩ := h.mapne
  have hbx := (h.box.set 2 (.int .i64 f')).congr (g := box5 (.int .i64 k) (.int .i64 tot) (.int .i64 f') (.map (some mb)) S) fun i hi => by
    match i, hi with
    | 0, _ => rfl
    | 1, _ => rfl
    | 2, _ => rfl
    | 3, _ => rfl
    | 4, _ => rfl
  refine ⟨⟨hbx, ⟨?_, own_keep h.qu.lst fun g hg => Below.heap_setCell _ _ _ _ (h.ne g (.inl hg)), fun i hi => (h.qu.ctr i hi).setOther (h.ne _ (.inr ⟨i, hi, rfl⟩)) _, h.qu.nod⟩, h.ne, ?_, h.same, h.heap⟩, ky_set _ _ _ (.inl rfl)⟩
  · exact hbx.cell (i := 4) (by omega)
  · obtain ⟨es, clk, hh, he⟩ := h.map
    exact ⟨es, clk, by rw [Below.heap_setCell _ _ _ _ n2]; exact hh, he⟩

/-- raise, under way. -/
structure RaS (w0 : World) (b k tot f' mb : Nat) (S0 : Value) (n0 : Nat) (E0 : Nat → Nat × Cn) (w : World) (S : Value) (n : Nat) (E : Nat → Nat × Cn) (L : List (Vk × Nat)) (rem : List (Nat × Cn)) : Prop where
  o : Of w b k tot f' mb S n E L
  perm : (lisE E n ++ rem).Perm (lisE E0 n0)
  gone : ∀ e ∈ rem, e.2.hi = f'
  least : ∀ i, i < n → f' ≤ (E i).2.hi
  once : Once E n
  ky : Ky (footO b mb S0 n0 E0) w0 w
  sub : ∀ q, fq S n E q → fq S0 n0 E0 q
/-- What raise leaves. -/
def RaA (w0 : World) (b k tot f' mb : Nat) (S0 : Value) (n0 : Nat) (E0 : Nat → Nat × Cn) (w : World) : Prop :=
  ∃ S n E L, Of w b k tot f' mb S n E L ∧ (lisE E n).Perm ((lisE E0 n0).filter fun e => decide (f' < e.2.hi)) ∧ Ky (footO b mb S0 n0 E0) w0 w ∧ ∀ q, fq S n E q → fq S0 n0 E0 q
theorem RaS.later {w0 : World} {b k tot f' mb : Nat} {S0 : Value} {n0 : Nat} {E0 : Nat → Nat × Cn} {w w' : World} {S : Value} {n : Nat} {E : Nat → Nat × Cn} {L : List (Vk × Nat)} {rem : List (Nat × Cn)} (h : RaS w0 b k tot f' mb S0 n0 E0 w S n E L rem) (hb : Below w.heap.size w w') : RaS w0 b k tot f' mb S0 n0 E0 w' S n E L rem :=
  ⟨h.o.later hb, h.perm, h.gone, h.least, h.once, h.ky.trans (Ky.of_below (F := footO b mb S0 n0 E0) hb) fun i hi => .inl hi, h.sub⟩
theorem RaS.done {w0 : World} {b k tot f' mb : Nat} {S0 : Value} {n0 : Nat} {E0 : Nat → Nat × Cn} {w : World} {S : Value} {n : Nat} {E : Nat → Nat × Cn} {L : List (Vk × Nat)} {rem : List (Nat × Cn)} (h : RaS w0 b k tot f' mb S0 n0 E0 w S n E L rem) (hd : n = 0 ∨ (E 0).2.hi ≠ f') : RaA w0 b k tot f' mb S0 n0 E0 w := by
  refine ⟨S, n, E, L, h.o, ?_, h.ky, h.sub⟩
  have h1 := h.perm.filter fun e => decide (f' < e.2.hi)
  rw [List.filter_append] at h1
  have e1 : (lisE E n).filter (fun e => decide (f' < e.2.hi)) = lisE E n := by
    rw [List.filter_eq_self]
    intro e he
    obtain ⟨i, hi, rfl⟩ := List.mem_map.1 he
    have hi' := List.mem_range.1 hi
    have h2 := h.o.heap.least i hi'
    have h3 := h.least 0 (by omega)
    simp only [keyE] at h2
    simp only [decide_eq_true_eq]
    rcases hd with hd | hd <;> omega
  have e2 : rem.filter (fun e => decide (f' < e.2.hi)) = [] := by
    rw [List.filter_eq_nil_iff]
    intro e he
    have := h.gone e he
    simp only [decide_eq_true_eq]; omega
  rw [e1, e2, List.append_nil] at h1
  exact h1
theorem step_del_run {ops : Array Oper} {o : Oper} {a : Act} {w : World} {K : Act → World → Prop} {Q : Exit → Act → World → Prop} {E : Prop} (hg : o.guard = none) (d x : Operand)
    (hop : o.op = Op.call { callee := Callee.builtin Builtin.delete, args := #[d, x], argTypes := #[50, 34] }) (v u : Value) (hd : a.eval d = v) (hx : a.eval x = u) {v' : Value} {w' : World} (hr : (Builtin.delete_ #[50, 34] o.type #[v, u]).run Try.prog w = .ok v' w') (hK : K (a.put o.dst v') w') :
    if Region.wanted o (yielded ops a.tmps) = true then Oper.wp Try.prog o a w K Q else E := by
  have hw : Region.wanted o (yielded ops a.tmps) = true := by simp [Region.wanted, hg]
  rw [if_pos hw]
  unfold Oper.wp execOp
  simp only [hop, resolve, invoke, builtin, Sem.run_bind, Sem.run_pure, Result.andThen_ok, List.map_toArray, List.map_cons, List.map_nil, hd, hx, hr]
  exact hK
end Go.Proofs.Ytgmfbjehdcdioaa

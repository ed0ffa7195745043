import Derived.Test.YtmgnndbcbalafaaMdS
import Derived.Laws.AppendOwnNone
import Derived.Deep.RegionLaw
set_option linter.unusedSimpArgs false
set_option linter.unusedVariables false
namespace Go.Proofs.Ytmgnndbcbalafaa
open Go.RowKit Go.Sort

theorem ints_app (a b : List Int) : ints (a ++ b) = ints a ++ ints b := by simp [ints]
theorem ints_len (a : List Int) : (ints a).length = a.length := by simp [ints]
theorem up_up {α : Type} (f : Nat → α) (i : Nat) (u v : α) : up (up f i u) i v = up f i v := by
  funext j; unfold up; split <;> rfl

/-- append(s, more...) of numbers: own memory, whatever is appended. -/
theorem run_app_any (w : World) (ty : TypeId) (s : Value) (zs : List Int) (ho : w.ownsRow 0 2 1 s zs.length (ints zs)) (a : Option Addr) (c : Nat) (ms : List Int) (hm : NumAt w a ms) (hn : a = none → ms = [] ∧ c = 0) (hl : zs.length + ms.length ≤ 1048576) :
    ∃ s' w1, (Builtin.append_ #[23, 23] ty #[s, .slice a ms.length c]).run Try.prog w = .ok s' w1 ∧ w1.ownsRow 0 2 1 s' (zs ++ ms).length (ints (zs ++ ms)) ∧ w.grownBy w1 s.ownBlock ∧ (s'.ownBlock = s.ownBlock ∨ s'.ownBlock = some w.heap.size) := by
  obtain ⟨i2, hi2, z20, z21, z22⟩ := info_parts Try.info2
  cases a with
  | none =>
    obtain ⟨rfl, rfl⟩ := hn rfl
    refine ⟨s, w, run_append_owned_none (P := Try.prog) (w := w) 0 23 ty 2 i2 1 Try.underlying23 hi2 s zs.length (ints zs) ho, by simpa using ho, ⟨rfl, rfl, rfl, Nat.le_refl _, fun _ _ _ => rfl⟩, .inl rfl⟩
  | some ad =>
    have hnews : ∀ j u, (ints ms)[j]? = some u → w.cell? (ad.add j) = some u := by
      intro j u hu
      rcases hm with rfl | ⟨b, off, e, hc⟩
      · simp [ints] at hu
      · cases e
        simp only [ints, List.getElem?_map, Option.map_eq_some_iff] at hu
        obtain ⟨x, hx, rfl⟩ := hu
        rw [Addr.add_lit]
        exact hc j x hx
    obtain ⟨s', w1, hr, h2, h3, _, h5⟩ := run_append_own_at (P := Try.prog) (w := w) 0 23 ty 2 i2 (.int .i64 0) 1 8 Try.underlying23 hi2 z20 z21 z22 rfl (by decide) s zs.length (ints zs) ho ad ms.length c (ints ms) (by rw [ints_len]; omega) hnews (by intro u hu; simp only [ints, List.mem_map] at hu; obtain ⟨x, _, rfl⟩ := hu; rfl) (by unfold maxLen; omega) (by omega) (Nat.zero_le _)
    exact ⟨s', w1, hr, by rw [List.length_append, ints_app]; exact h2, h3, h5⟩

/-- .. as one step of a region that draws. -/
theorem step_app_any {ops : Array Oper} {o : Oper} {a : Act} {w : World} {K : Act → World → Prop} {Q : Exit → Act → World → Prop} {E : Prop} (hgd : o.guard = none) (d x : Operand)
    (hop : o.op = Op.call { callee := Callee.builtin Builtin.append, args := #[d, x], argTypes := #[23, 23] })
    (s : Value) (zs : List Int) (hd : a.eval d = s) (ho : w.ownsRow 0 2 1 s zs.length (ints zs)) (ad : Option Addr) (c : Nat) (ms : List Int) (hx : a.eval x = .slice ad ms.length c) (hm : NumAt w ad ms) (hn : ad = none → ms = [] ∧ c = 0) (hl : zs.length + ms.length ≤ 1048576) (ZS : List Int) (hZ : zs ++ ms = ZS)
    (h : ∀ a5 c5 w1, w1.ownsRow 0 2 1 (.slice a5 ZS.length c5) ZS.length (ints ZS) → w.grownBy w1 s.ownBlock → ((Value.slice a5 ZS.length c5).ownBlock = s.ownBlock ∨ (Value.slice a5 ZS.length c5).ownBlock = some w.heap.size) → K (a.put o.dst (.slice a5 ZS.length c5)) w1) :
    if Region.wanted o (yielded ops a.tmps) = true then Oper.wp Try.prog o a w K Q else E := by
  have hw : Region.wanted o (yielded ops a.tmps) = true := by simp [Region.wanted, hgd]
  rw [if_pos hw]
  obtain ⟨s', w1, hr, h2, h3, h4⟩ := run_app_any w o.type s zs ho ad c ms hm hn hl
  rw [hZ] at h2
  obtain ⟨a5, c5, rfl, _⟩ := num_of_own h2
  unfold Oper.wp execOp
  simp only [hop, resolve, invoke, builtin, Sem.run_bind, Sem.run_pure, Result.andThen_ok, List.map_toArray, List.map_cons, List.map_nil, hd, hx, hr]
  exact h a5 c5 w1 h2 h3 h4

/-- A level has been changed in its own memory. -/
theorem Mid.change {w w1 : World} {b c tot sl i : Nat} {S s : Value} {Ls : List Value} {lv : Nat → List Int} {zs : List Int} (h : Mid w b c tot sl S Ls lv) (hs : Ls[i]? = some s)
    (ho : w1.ownsRow 0 2 1 s zs.length (ints zs)) (hg : w.grownBy w1 s.ownBlock) : Mid w1 b c tot sl S Ls (up lv i zs) ∧ Ky (foot b S Ls) w w1 := by
  refine ⟨⟨rowIs_grown h.box hg (h.boxL hs), own_keep h.lst fun g hg' => hg.block g (h.lst.lt g hg').2 (fun e => h.lstL hs (by rw [hg', e])), fun j t ht => ?_, h.apart, h.pos, fun j hj => ?_⟩, Ky.of_grown (F := foot b S Ls) hg fun k hk => .inr (.inr ⟨s, List.mem_of_getElem? hs, hk⟩)⟩
  · by_cases e : j = i
    · subst e
      rw [hs] at ht; cases ht
      rw [up_same]; exact ho
    · rw [up_ne e]
      exact own_keep (h.own j t ht) fun g hg' => hg.block g ((h.own j t ht).lt g hg').2 (fun e' => by
        rcases h.apart j i t s ht hs e with k | k
        · rw [k] at hg'; cases hg'
        · exact k (by rw [hg', e']))
  · have hi : i < Ls.length := (List.getElem?_eq_some_iff.1 hs).1
    rw [up_ne (by omega)]; exact h.beyond j hj
end Go.Proofs.Ytmgnndbcbalafaa

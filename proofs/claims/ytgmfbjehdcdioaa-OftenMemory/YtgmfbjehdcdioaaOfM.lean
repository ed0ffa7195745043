import Derived.Test.YtgmfbjehdcdioaaOfL
import Derived.MapKept
set_option linter.unusedSimpArgs false
set_option linter.unusedVariables false
set_option maxRecDepth 100000
namespace Go.Proofs.Ytgmfbjehdcdioaa
open Go.RowKit Go.Sort

theorem get_map {P : Program} {w : World} {r : Nat} {es : Array MapEntry} {clk : Nat} (hb : w.heap[r]? = some (.map es clk)) : (getObj r).run P w = .ok (.map es clk) w := by
  simp [getObj, Sem.run, hb]
theorem look_yes {W : World} {mb : Nat} {L : List (Vk × Nat)} {x : Vk} {j p : Nat} (h : MapAt W mb L) (hx : atK L x = some (j, p)) : (Instr.lookup 50 (.map (some mb)) x.v true).run Try.prog W = .ok (.tuple #[.pointer (some ⟨p, 0, none⟩), .bool true]) W := by
  obtain ⟨es, clk, hh, he⟩ := h
  unfold Instr.lookup
  simp only [Sem.run_bind, run_underlying Try.underlying50, Result.andThen_ok, get_map hh, Sem.run_pure, checkV, findV x W es.toList L he, hx, Option.map_some, pv]
  simp
theorem look_no {W : World} {mb : Nat} {L : List (Vk × Nat)} {x : Vk} (h : MapAt W mb L) (hx : atK L x = none) : (Instr.lookup 50 (.map (some mb)) x.v true).run Try.prog W = .ok (.tuple #[.pointer none, .bool false]) W := by
  obtain ⟨es, clk, hh, he⟩ := h
  have hz : (zeroValue 57).run Try.prog W = .ok (.pointer none) W := by kernel_rfl
  unfold Instr.lookup
  simp only [Sem.run_bind, run_underlying Try.underlying50, Result.andThen_ok, get_map hh, Sem.run_pure, checkV, findV x W es.toList L he, hx, Option.map_none, hz]
  simp
theorem set_map {P : Program} {w : World} {r : Nat} {es : Array MapEntry} {clk : Nat} (o : Obj) (hb : w.heap[r]? = some (.map es clk)) : (setObj r o).run P w = .ok () { w with heap := w.heap.setIfInBounds r o } := by
  simp only [setObj, Sem.run, hb]

/-- A world whose block r is another. -/
def putO (w : World) (r : Nat) (o : Obj) : World := { w with heap := w.heap.setIfInBounds r o }
theorem putO_at {w : World} {r : Nat} {o : Obj} (h : r < w.heap.size) : (putO w r o).heap[r]? = some o := by simp [putO, h]
theorem putO_ne {w : World} {r k : Nat} {o : Obj} (h : k ≠ r) : (putO w r o).heap[k]? = w.heap[k]? := by simp [putO, Array.getElem?_setIfInBounds, Ne.symm h]
theorem ky_putO {F : Nat → Prop} (w : World) (r : Nat) (o : Obj) (hF : F r) : Ky F w (putO w r o) :=
  ⟨rfl, rfl, rfl, by simp [putO], fun k _ hn => putO_ne (fun e => hn (by rw [e]; exact hF))⟩
theorem put_new {W : World} {mb : Nat} {L : List (Vk × Nat)} {x : Vk} (p : Nat) (h : MapAt W mb L) (hx : atK L x = none) :
    ∃ o, (Instr.mapUpdate 50 (.map (some mb)) x.v (.pointer (some ⟨p, 0, none⟩))).run Try.prog W = .ok () (putO W mb o) ∧ MapAt (putO W mb o) mb (L ++ [(x, p)]) := by
  obtain ⟨es, clk, hh, he⟩ := h
  have hlt : mb < W.heap.size := (Array.getElem?_eq_some_iff.1 hh).1
  refine ⟨.map (es.push { key := x.v, val := .pointer (some ⟨p, 0, none⟩), born := clk }) (clk + 1), ?_, _, _, putO_at hlt, ?_⟩
  · unfold Instr.mapUpdate
    simp only [Sem.run_bind, run_underlying Try.underlying50, Result.andThen_ok, get_map hh, Sem.run_pure, checkV, findV x W es.toList L he, hx, Option.map_none]
    rw [set_map _ hh]; rfl
  · unfold Ents at he ⊢
    rw [Array.toList_push, List.map_append, List.map_append, he]; rfl
theorem del_old {W : World} {mb : Nat} {L : List (Vk × Nat)} {x : Vk} {j p : Nat} (h : MapAt W mb L) (hx : atK L x = some (j, p)) :
    ∃ o, (∀ ty, (Builtin.delete_ #[50, 34] ty #[.map (some mb), x.v]).run Try.prog W = .ok (.tuple #[]) (putO W mb o)) ∧ MapAt (putO W mb o) mb (L.eraseIdx j) := by
  obtain ⟨es, clk, hh, he⟩ := h
  have hlt : mb < W.heap.size := (Array.getElem?_eq_some_iff.1 hh).1
  refine ⟨.map (es.eraseIdxIfInBounds j) clk, ?_, _, _, putO_at hlt, ?_⟩
  · intro ty
    unfold Builtin.delete_
    simp only [List.getElem?_toArray, List.getElem?_cons_zero, List.getElem?_cons_succ, Sem.run_bind, run_underlying Try.underlying50, Result.andThen_ok, get_map hh, Sem.run_pure, checkV, findV x W es.toList L he, hx, Option.map_some]
    rw [set_map _ hh]; rfl
  · unfold Ents at he ⊢
    rw [Array.toList_eraseIdxIfInBounds]
    simp only [List.eraseIdx_eq_take_drop_succ, List.map_append, List.map_take, List.map_drop]
    rw [he]
end Go.Proofs.Ytgmfbjehdcdioaa

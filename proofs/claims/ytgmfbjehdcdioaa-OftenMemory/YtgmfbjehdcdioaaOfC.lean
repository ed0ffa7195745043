import Derived.Test.YtgmfbjehdcdioaaOfB
import Derived.Test.YtgmfbjehdcdioaaChecked
import Derived.WalkKit
import Derived.WalkSpells
import Derived.WalkLawsBesides
import Derived.StillTactics
import Derived.Deep.RegionHeld3
import Derived.Lib.QuietBelow
import Derived.BigQuiet
import Derived.RowKit3
import Derived.Deep.DeepCutAuto
import Derived.Deep.DrawnRows
import Derived.Maps.AppendAt
import Derived.Deep.AppendLies
import Derived.Deep.OwnRows
import Derived.Deep.RegionLaw
set_option linter.unusedSimpArgs false
set_option linter.unusedVariables false
namespace Go.Proofs.Ytgmfbjehdcdioaa
open Go.RowKit Go.Sort

theorem hide {p : Prop} (h : p) : Hid p := h
theorem unhide {p : Prop} (h : Hid p) : p := h
theorem below_step {W0 w' w1 : World} (h : Below W0.heap.size W0 w') (h1 : Below w'.heap.size w' w1) : Below W0.heap.size W0 w1 := h.trans (h1.mono h.size)
theorem below_alloc {W0 w' : World} (h : Below W0.heap.size W0 w') (o : Obj) : Below W0.heap.size W0 (w'.alloc o) := h.alloc h.size o
theorem bcell {W w1 : World} (hb : Below W.heap.size W w1) : (∀ b o, b < W.heap.size → w1.cell? ⟨b, o, none⟩ = W.cell? ⟨b, o, none⟩) ∧ (∀ b o, b < W.heap.size → w1.frozen? ⟨b, o, none⟩ = W.frozen? ⟨b, o, none⟩) :=
  ⟨fun b o h => hb.cell (p := ⟨b, o, none⟩) h, fun b o h => hb.frozen (p := ⟨b, o, none⟩) h⟩

/-- All blocks are as they were, but those of F. -/
structure Ky (F : Nat → Prop) (w w' : World) : Prop where
  os : w'.os = w.os
  tape : w'.tape = w.tape
  output : w'.output = w.output
  size : w.heap.size ≤ w'.heap.size
  block : ∀ k, k < w.heap.size → ¬ F k → w'.heap[k]? = w.heap[k]?
theorem Ky.refl (F : Nat → Prop) (w : World) : Ky F w w := ⟨rfl, rfl, rfl, Nat.le_refl _, fun _ _ _ => rfl⟩
theorem Ky.trans {F G : Nat → Prop} {a b c : World} (h : Ky F a b) (k : Ky G b c) (hG : ∀ i, G i → F i ∨ a.heap.size ≤ i) : Ky F a c :=
  ⟨k.os.trans h.os, k.tape.trans h.tape, k.output.trans h.output, Nat.le_trans h.size k.size, fun i hi hn =>
    (k.block i (Nat.lt_of_lt_of_le hi h.size) (fun g => by rcases hG i g with g | g; exact hn g; omega)).trans (h.block i hi hn)⟩
theorem Ky.less {F G : Nat → Prop} {a b : World} (h : Ky F a b) (hG : ∀ i, i < a.heap.size → F i → G i) : Ky G a b := ⟨h.os, h.tape, h.output, h.size, fun i hi hn => h.block i hi fun f => hn (hG i hi f)⟩
theorem Ky.of_below {F : Nat → Prop} {w w' : World} (h : Below w.heap.size w w') : Ky F w w' := ⟨h.os, h.tape, h.output, h.size, fun k hk _ => h.block k hk⟩
theorem Ky.of_grown {F : Nat → Prop} {w w' : World} {row : Option Nat} (h : w.grownBy w' row) (hF : ∀ k, row = some k → F k) : Ky F w w' :=
  ⟨h.os, h.tape, h.output, h.size, fun k hk hn => h.block k hk fun e => hn (hF k e.symm)⟩
theorem Ky.below {F : Nat → Prop} {w w' : World} (h : Ky F w w') {n : Nat} (hn : ∀ k, F k → n ≤ k) (hs : n ≤ w.heap.size) : Below n w w' := ⟨h.os, h.tape, h.output, h.size, fun k hk => h.block k (by omega) (fun f => by have := hn k f; omega)⟩
theorem Ky.cell {F : Nat → Prop} {w w' : World} (h : Ky F w w') {b o : Nat} {v : Value} (hc : w.cell? ⟨b, o, none⟩ = some v) (hn : ¬ F b) : w'.cell? ⟨b, o, none⟩ = some v := by
  have hl := World.block_lt_of_cell? _ _ hc
  rw [← hc]; unfold World.cell?; rw [h.block b hl hn]
theorem rowIs_later {w w' : World} {g t n : Nat} {F : Nat → Value} (h : w.rowIs g t n F) (hb : Below w.heap.size w w') : w'.rowIs g t n F := h.of_block (hb.block _ h.lt)
theorem rowIs_grown {w w' : World} {g t n : Nat} {F : Nat → Value} {row : Option Nat} (h : w.rowIs g t n F) (hg : w.grownBy w' row) (hne : some g ≠ row) : w'.rowIs g t n F := h.of_block (hg.block _ h.lt hne)
theorem own_block {w : World} {base e size : Nat} {v : Value} {m : Nat} {xs : List Value} (h : w.ownsRow base e size v m xs) {g : Nat} (hg : v.ownBlock = some g) : ∃ cur, w.heap[g]? = some (.cells cur e (0, 0)) := by
  rcases h.2 with ⟨rfl, _⟩ | ⟨g', cap, cur, rfl, _, hh, _⟩
  · simp [Value.ownBlock] at hg
  · simp [Value.ownBlock] at hg; subst hg; exact ⟨cur, hh⟩
theorem own_ne {w : World} {g t n : Nat} {F : Nat → Value} {base e size : Nat} {v : Value} {m : Nat} {xs : List Value} (h : w.rowIs g t n F) (ho : w.ownsRow base e size v m xs) (hte : t ≠ e) : some g ≠ v.ownBlock := by
  intro hg
  obtain ⟨cur, hc⟩ := own_block ho hg.symm
  obtain ⟨c, hb, _⟩ := h
  rw [hc] at hb
  simp at hb
  exact hte hb.2.symm
theorem own_own {w : World} {base e size base' e' size' : Nat} {v v' : Value} {m m' : Nat} {xs xs' : List Value} (h : w.ownsRow base e size v m xs) (h' : w.ownsRow base' e' size' v' m' xs') (hne : e ≠ e') : v.ownBlock = none ∨ v.ownBlock ≠ v'.ownBlock := by
  cases hv : v.ownBlock with
  | none => exact .inl rfl
  | some g =>
    right
    intro hg
    obtain ⟨c, hc⟩ := own_block h hv
    obtain ⟨c', hc'⟩ := own_block h' hg.symm
    rw [hc] at hc'
    simp at hc'
    exact hne hc'.2
theorem own_keep {w w1 : World} {base e size : Nat} {v : Value} {m : Nat} {xs : List Value} (h : w.ownsRow base e size v m xs) (hb : ∀ g, v.ownBlock = some g → w1.heap[g]? = w.heap[g]?) : w1.ownsRow base e size v m xs := by
  refine ⟨h.1, ?_⟩
  rcases h.2 with h2 | ⟨g, cap, cur, rfl, h3, h4, h5⟩
  · exact .inl h2
  · exact .inr ⟨g, cap, cur, rfl, h3, by rw [hb g rfl]; exact h4, h5⟩
theorem own_later {w w1 : World} {base e size : Nat} {v : Value} {m : Nat} {xs : List Value} (h : w.ownsRow base e size v m xs) (hb : Below w.heap.size w w1) : w1.ownsRow base e size v m xs :=
  own_keep h fun g hg => hb.block g (h.lt g hg).2
theorem own_cell {w : World} {base e g n cap : Nat} {xs : List Value} (h : w.ownsRow base e 1 (.slice (some ⟨g, 0, none⟩) n cap) n xs) {i : Nat} {v : Value} (hi : xs[i]? = some v) : w.cell? ⟨g, i, none⟩ = some v := by
  have := @World.ownsRow.cells w base e 1 _ n xs h g rfl i v hi
  rw [Addr.add_lit, Nat.zero_add] at this
  exact this
theorem own_frozen {w : World} {base e size g n cap : Nat} {xs : List Value} (h : w.ownsRow base e size (.slice (some ⟨g, 0, none⟩) n cap) n xs) (i : Nat) : w.frozen? ⟨g, i, none⟩ = false := by
  obtain ⟨cur, hc⟩ := own_block h (g := g) rfl
  simp [World.frozen?, hc]
/-- A store into an own list. -/
theorem own_store {w : World} {base e g n cap : Nat} {xs : List Value} (h : w.ownsRow base e 1 (.slice (some ⟨g, 0, none⟩) n cap) n xs) {i : Nat} (hi : i < n) (v : Value) : (w.setCell ⟨g, i, none⟩ v).ownsRow base e 1 (.slice (some ⟨g, 0, none⟩) n cap) n (xs.set i v) := by
  refine ⟨by simpa using h.1, .inr ?_⟩
  rcases h.2 with ⟨h1, _⟩ | ⟨g', cap', cur, he, h3, h4, h5, h6, h7, h8⟩
  · cases h1
  · cases he
    refine ⟨g, cap, cur.setIfInBounds i v, rfl, h3, ?_, h5, h6, by simpa using h7, ?_⟩
    · simp [World.setCell, Array.getElem?_modify, h4]
    · rw [← h8, Array.toList_setIfInBounds]
      rw [Nat.mul_one]
      rw [List.take_set]
theorem own_setO {w : World} {base e size : Nat} {v : Value} {m : Nat} {xs : List Value} (h : w.ownsRow base e size v m xs) {a : Addr} (ha : v.ownBlock ≠ some a.block) (u : Value) : (w.setCell a u).ownsRow base e size v m xs :=
  own_keep h fun g hg => Below.heap_setCell _ _ _ _ (fun e => ha (by rw [hg, e]))

theorem ky_set {F : Nat → Prop} (w : World) (a : Addr) (v : Value) (hF : F a.block) : Ky F w (w.setCell a v) :=
  ⟨rfl, rfl, rfl, by simp [World.setCell], fun k _ hn => Below.heap_setCell _ _ _ _ (fun e => hn (by rw [e]; exact hF))⟩

theorem rA (a : Addr) (W : World) (s : String) : (Builtin.ssaWrapNilChk_ #[82] 82 #[.pointer (some a), strVal "", strVal s]).run Try.prog W = .ok (.pointer (some a)) W := by first | kernel_rfl | (simp [Builtin.ssaWrapNilChk_]; done)
theorem r1 (a : Addr) (W : World) (s : String) : (receiverAt 82 (.val (.pointer (some a))) false (some s)).run Try.prog W = (loadVar 52 a).run Try.prog W := by
  have u : ∀ W : World, (underlying 82).run Try.prog W = .ok (.pointer 52) W := fun W => by kernel_rfl
  simp [receiverAt, Place.get, u, rA, asAddr]
theorem load52 {b o : Nat} {v : Value} {W : World} (h : W.cell? ⟨b, o, none⟩ = some v) : (loadVar 52 ⟨b, o, none⟩).run Try.prog W = .ok v W := by
  go_simp
theorem m_of (name : String) (f : Nat) (hq : ((Try.prog.info? 82).bind fun i => i.methods.find? (·.name == name)).map (fun m => (m.path.size, m.func)) = some (0, some (f, false))) {b o : Nat} {v : Value} {W : World} (h : W.cell? ⟨b, o, none⟩ = some v) :
    (method 242 82 (.pointer (some ⟨b, o, none⟩)) name).run Try.prog W = .ok (f, v) W := by
  simp only [Option.map_eq_some_iff, Option.bind_eq_some_iff] at hq
  obtain ⟨m, ⟨I, hI, hm⟩, he⟩ := hq
  simp only [Prod.mk.injEq] at he
  have ht : (typeInfo 82).run Try.prog W = .ok I W := by simp [typeInfo, hI]
  have hp : m.path = #[] := Array.eq_empty_of_size_eq_zero he.1
  unfold method
  simp only [Sem.run_bind, ht, Result.andThen_ok, hm, hp, follow, Array.toList_empty, Sem.run_pure, he.2]
  have e : (if (#[] : Array FieldStep).isEmpty = true then some ((name.splitOn ".").getLastD name) else none) = some ((name.splitOn ".").getLastD name) := if_pos rfl
  rw [e, r1, load52 h]
  rfl
theorem mLen {b o : Nat} {v : Value} {W : World} (h : W.cell? ⟨b, o, none⟩ = some v) : (method 242 82 (.pointer (some ⟨b, o, none⟩)) "Len").run Try.prog W = .ok (93, v) W := m_of "Len" 93 (by kernel_rfl) h
theorem mLess {b o : Nat} {v : Value} {W : World} (h : W.cell? ⟨b, o, none⟩ = some v) : (method 242 82 (.pointer (some ⟨b, o, none⟩)) "Less").run Try.prog W = .ok (94, v) W := m_of "Less" 94 (by kernel_rfl) h
theorem mSwap {b o : Nat} {v : Value} {W : World} (h : W.cell? ⟨b, o, none⟩ = some v) : (method 242 82 (.pointer (some ⟨b, o, none⟩)) "Swap").run Try.prog W = .ok (95, v) W := m_of "Swap" 95 (by kernel_rfl) h
theorem mPop (a : Addr) (W : World) : (method 242 82 (.pointer (some a)) "Pop").run Try.prog W = .ok (96, .pointer (some a)) W := by kernel_rfl
theorem mPush (a : Addr) (W : World) : (method 242 82 (.pointer (some a)) "Push").run Try.prog W = .ok (97, .pointer (some a)) W := by kernel_rfl

end Go.Proofs.Ytgmfbjehdcdioaa

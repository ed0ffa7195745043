import Derived.Test.YtmjeiepljlepbacGreatExJ
import Derived.Test.YtmjeiepljlepbacGreatCellS
import Derived.WalkKit
import Derived.WalkSpells
import Derived.WalkLawsBesides
import Derived.StillTactics
import Derived.Deep.RegionHeld3
import Derived.Lib.QuietBelow
import Derived.BigQuiet
import Derived.RowKit3
import Derived.Deep.DeepCutAuto
import Derived.Deep.DrawnRows
import Derived.Lib.Bytealg
import Derived.Maps.AppendAt
import Derived.Deep.AppendLies
import Derived.Deep.OwnRows
set_option linter.unusedSimpArgs false
set_option linter.unusedVariables false
set_option maxRecDepth 100000
namespace Go.Proofs.YtmjeiepljlepbacGreat.Vv
open Go.RowKit Go.Sort
def kindB (k : Int) : Bool := k == 1 || k == 2
def largeB (s : ByteArray) : Bool := decide ((1000 : Int) < (s.size : Int))

theorem bcell {W w1 : World} (hb : Below W.heap.size W w1) : (∀ b o, b < W.heap.size → w1.cell? ⟨b, o, none⟩ = W.cell? ⟨b, o, none⟩) ∧ (∀ b o, b < W.heap.size → w1.frozen? ⟨b, o, none⟩ = W.frozen? ⟨b, o, none⟩) :=
  ⟨fun b o h => hb.cell (p := ⟨b, o, none⟩) h, fun b o h => hb.frozen (p := ⟨b, o, none⟩) h⟩

theorem text_any (s : ByteArray) (w : World) :
    Calls Tryz.prog 90 #[.string s] w fun e w' => e = .returned (Val.str s).v ∧ Below w.heap.size w w' := by
  unfold Val.v Val.str
  go_enter Tryz.func90, Tryz.ntmps90
  go_wp2
  exact bodyPost_ret (v := .agg #[.int .i64 2, .int .i64 0, .string s]) (by simp [results, Tryz.results90, go_sem]) rfl ⟨rfl, (Below.refl _ _).alloc (Nat.le_refl _) _⟩
theorem rstr_any (s : ByteArray) (w : World) :
    Calls Tryz.prog 144 #[.string s] w fun e w' => e = .returned (Val.str s).v ∧ Below w.heap.size w w' := by
  unfold Val.v Val.str
  go_enter Tryz.func144, Tryz.ntmps144
  go_wp2
  exact bodyPost_ret (v := .agg #[.int .i64 2, .int .i64 0, .string s]) (by simp [results, Tryz.results144, go_sem]) rfl ⟨rfl, (Below.refl _ _).alloc (Nat.le_refl _) _⟩
theorem iskind_any (k : Int) (w : World) :
    Calls Tryz.prog 46 #[.int .i64 k] w fun e w' => e = .returned (.bool (kindB k)) ∧ w' = w := by
  unfold kindB
  by_cases hk : (k == 1) = true
  · go_enter Tryz.func46, Tryz.ntmps46
    go_wp2
    go_ret
    exact ⟨by simp [hk], rfl⟩
  · have hk' : (k == 1) = false := by simpa using hk
    clear hk
    go_enter Tryz.func46, Tryz.ntmps46
    go_wp2
    go_ret
    exact ⟨by simp [hk'], rfl⟩
theorem islarge_any (s : ByteArray) (w : World) :
    Calls Tryz.prog 48 #[.string s] w fun e w' => e = .returned (.bool (largeB s)) ∧ w' = w := by
  unfold largeB
  go_enter Tryz.func48, Tryz.ntmps48
  go_wp2
  go_ret
  exact ⟨rfl, rfl⟩
theorem num_any (n : Int) (w : World) (h : -9223372036854775808 ≤ n ∧ n ≤ 9223372036854775807) :
    Calls Tryz.prog 29 #[.int .i64 n] w fun e w' => e = .returned (.int .i64 n) ∧ w' = w := by
  obtain ⟨h1, h2⟩ := h
  go_enter Tryz.func29, Tryz.ntmps29
  go_wp2
  go_ret
  exact ⟨rfl, rfl⟩
end Go.Proofs.YtmjeiepljlepbacGreat.Vv
set_option linter.unusedSimpArgs false
set_option maxRecDepth 100000
set_option linter.unusedVariables false
namespace Go.Proofs.YtmjeiepljlepbacGreat.Vv
open Go.RowKit Go.Sort

/-- A slice of one-cell elements, as it lies in memory. -/
def LisAt (w : World) (a : Option Addr) (cs : List Value) : Prop :=
  cs = [] ∨ ∃ b off, a = some ⟨b, off, none⟩ ∧ ∀ i x, cs[i]? = some x → w.cell? ⟨b, off + i, none⟩ = some x
theorem LisAt.later {w w' : World} {a : Option Addr} {cs : List Value} (h : LisAt w a cs) (hb : Below w.heap.size w w') : LisAt w' a cs := by
  rcases h with h | ⟨b, off, ha, h⟩
  · exact .inl h
  · exact .inr ⟨b, off, ha, fun i x hx => cell_later hb (h i x hx)⟩

/-- A column: its kind, where there is no value, its numbers, its texts. -/
structure Vc where
  k : Int
  nl : List Bool
  ns : List Int
  ss : List ByteArray
def Vc.zero : Vc := ⟨0, [], [], []⟩
/-- A column's slices. -/
structure Sl where
  a1 : Option Addr
  c1 : Nat
  a2 : Option Addr
  c2 : Nat
  a3 : Option Addr
  c3 : Nat
def vecV (X : Vc) (p : Sl) : Value := .agg #[.int .i64 X.k, .slice p.a1 X.nl.length p.c1, .slice p.a2 X.ns.length p.c2, .slice p.a3 X.ss.length p.c3]
theorem vecV_open (X : Vc) (p : Sl) : vecV X p = .agg #[.int .i64 X.k, .slice p.a1 X.nl.length p.c1, .slice p.a2 X.ns.length p.c2, .slice p.a3 X.ss.length p.c3] := rfl
def VecAt (w : World) (X : Vc) (p : Sl) : Prop := LisAt w p.a1 (X.nl.map .bool) ∧ LisAt w p.a2 (X.ns.map (.int .i64)) ∧ LisAt w p.a3 (X.ss.map .string)
theorem VecAt.later {w w' : World} {X : Vc} {p : Sl} (h : VecAt w X p) (hb : Below w.heap.size w w') : VecAt w' X p := ⟨h.1.later hb, h.2.1.later hb, h.2.2.later hb⟩
theorem VecAt.zero (w : World) : VecAt w Vc.zero ⟨none, 0, none, 0, none, 0⟩ := ⟨.inl rfl, .inl rfl, .inl rfl⟩

/-- The slices lie in blocks from base on. -/
def Fresh (base : Nat) (p : Sl) : Prop := (∀ ad, p.a1 = some ad → base ≤ ad.block) ∧ (∀ ad, p.a2 = some ad → base ≤ ad.block) ∧ (∀ ad, p.a3 = some ad → base ≤ ad.block)
theorem Fresh.less {b c : Nat} {p : Sl} (h : Fresh c p) (hb : b ≤ c) : Fresh b p := ⟨fun ad e => Nat.le_trans hb (h.1 ad e), fun ad e => Nat.le_trans hb (h.2.1 ad e), fun ad e => Nat.le_trans hb (h.2.2 ad e)⟩
theorem LisAt.setO {w : World} {a : Option Addr} {base : Nat} {cs : List Value} (h : LisAt w a cs) (hf : ∀ ad, a = some ad → base ≤ ad.block) (x : Addr) (hx : x.block < base) (v : Value) : LisAt (w.setCell x v) a cs := by
  rcases h with h | ⟨b, off, e, h⟩
  · exact .inl h
  · subst e
    have := hf _ rfl
    exact .inr ⟨b, off, rfl, fun i y hy => (World.cell?_of_block (w := w) (Go.Deep.blk_setCell_other _ _ _ _ (by simp at this ⊢; omega))).trans (h i y hy)⟩
theorem VecAt.setO {w : World} {X : Vc} {p : Sl} {base : Nat} (h : VecAt w X p) (hf : Fresh base p) (x : Addr) (hx : x.block < base) (v : Value) : VecAt (w.setCell x v) X p :=
  ⟨h.1.setO hf.1 x hx v, h.2.1.setO hf.2.1 x hx v, h.2.2.setO hf.2.2 x hx v⟩
theorem VecAt.setO4 {w : World} {X : Vc} {p : Sl} {base B : Nat} (h : VecAt w X p) (hf : Fresh base p) (hx : B < base) (v0 v1 v2 v3 : Value) : VecAt ((((w.setCell ⟨B, 0, none⟩ v0).setCell ⟨B, 1, none⟩ v1).setCell ⟨B, 2, none⟩ v2).setCell ⟨B, 3, none⟩ v3) X p :=
  (((h.setO hf _ hx _).setO hf _ hx _).setO hf _ hx _).setO hf _ hx _

def nlOf (xs : List Val) : List Bool := xs.map (fun x => x.k == 0)
def laidV (kind : Int) (xs : List Val) : Vc := ⟨kind, nlOf xs, if kind = 1 then xs.map (·.n) else [], if kind = 1 then [] else xs.map (·.s)⟩

theorem Tryz.info4 : (Tryz.prog.info? 4).map (fun i => (i.zero, i.size, i.bytes)) = some (some (.bool false), 1, 1) := by kernel_rfl
theorem Tryz.info2 : (Tryz.prog.info? 2).map (fun i => (i.zero, i.size, i.bytes)) = some (some (.int .i64 0), 1, 8) := by kernel_rfl
theorem Tryz.info9 : (Tryz.prog.info? 9).map (fun i => (i.zero, i.size, i.bytes)) = some (some (.string ⟨#[]⟩), 1, 16) := by kernel_rfl
theorem Tryz.info38 : (Tryz.prog.info? 38).map (fun i => (i.zero, i.size, i.bytes)) = some (some (.agg #[.int .i64 0, .int .i64 0, .string ⟨#[]⟩]), 3, 32) := by kernel_rfl

/-- What a row of the call's own holds up to k. -/
def Holds (F : Nat → Value) (k : Nat) (cs : List Value) : Prop := ∀ i x, i < k → cs[i]? = some x → F i = x
theorem Holds.zero (F : Nat → Value) (cs : List Value) : Holds F 0 cs := fun i x h => by omega
theorem Holds.step {F : Nat → Value} {k : Nat} {cs : List Value} {v : Value} (h : Holds F k cs) (hv : cs[k]? = some v) : Holds (fun j => if j = k then v else F j) (k + 1) cs := by
  intro i x hi hx
  by_cases e : i = k
  · subst e; rw [hv] at hx; simpa using hx
  · show (if i = k then v else F i) = x
    rw [if_neg e]; exact h i x (by omega) hx
theorem lis_of_row {w : World} {g t n : Nat} {F : Nat → Value} {cs : List Value} (h : w.rowIs g t n F) (hl : cs.length = n) (hh : Holds F n cs) : LisAt w (some ⟨g, 0, none⟩) cs := by
  refine .inr ⟨g, 0, rfl, fun i x hx => ?_⟩
  have hi : i < n := by have := (List.getElem?_eq_some_iff.1 hx).1; omega
  rw [Nat.zero_add, h.cell hi, hh i x hi hx]

def box4 (a b c d : Value) : Nat → Value
  | 0 => a
  | 1 => b
  | 2 => c
  | _ => d
end Go.Proofs.YtmjeiepljlepbacGreat.Vv
set_option linter.unusedSimpArgs false
set_option maxRecDepth 100000
set_option linter.unusedVariables false
namespace Go.Proofs.YtmjeiepljlepbacGreat.Vv
open Go.RowKit Go.Sort

def fit (X : Vc) : Prop := X.nl.length ≤ maxLen ∧ X.ns.length ≤ maxLen ∧ X.ss.length ≤ maxLen
theorem LisAt.get {w : World} {a : Option Addr} {cs : List Value} {k : Nat} {x : Value} (h : LisAt w a cs) (hx : cs[k]? = some x) : ∃ b off, a = some ⟨b, off, none⟩ ∧ w.cell? ⟨b, off + k, none⟩ = some x := by
  rcases h with h | ⟨b, off, ha, h⟩
  · rw [h] at hx; cases hx
  · exact ⟨b, off, ha, h k x hx⟩

def two (w : World) (v1 v2 v3 v4 u1 u2 u3 u4 : Value) : World := (w.alloc (.cells #[v1, v2, v3, v4] 29)).alloc (.cells #[u1, u2, u3, u4] 29)
theorem two_facts {w w' : World} {v1 v2 v3 v4 u1 u2 u3 u4 : Value} (h : Below (two w v1 v2 v3 v4 u1 u2 u3 u4).heap.size (two w v1 v2 v3 v4 u1 u2 u3 u4) w') :
    (w'.cell? ⟨w.heap.size, 1, none⟩ = some v2 ∧ w'.cell? ⟨w.heap.size, 2, none⟩ = some v3 ∧ w'.cell? ⟨w.heap.size, 3, none⟩ = some v4) ∧
    (w'.cell? ⟨w.heap.size + 1, 1, none⟩ = some u2 ∧ w'.cell? ⟨w.heap.size + 1, 2, none⟩ = some u3 ∧ w'.cell? ⟨w.heap.size + 1, 3, none⟩ = some u4) ∧ Below w.heap.size w w' := by
  have hs : (two w v1 v2 v3 v4 u1 u2 u3 u4).heap.size = w.heap.size + 1 + 1 := by simp [two]
  obtain ⟨hc, hf⟩ := bcell h
  refine ⟨⟨?_, ?_, ?_⟩, ⟨?_, ?_, ?_⟩, ?_⟩
  · rw [hc _ _ (by rw [hs]; omega)]; simp [two, go_sem]
  · rw [hc _ _ (by rw [hs]; omega)]; simp [two, go_sem]
  · rw [hc _ _ (by rw [hs]; omega)]; simp [two, go_sem]
  · rw [hc _ _ (by rw [hs]; omega)]; simp [two, go_sem]
  · rw [hc _ _ (by rw [hs]; omega)]; simp [two, go_sem]
  · rw [hc _ _ (by rw [hs]; omega)]; simp [two, go_sem]
  · exact (((Below.refl _ _).alloc (Nat.le_refl _) _).alloc (by simp) _).trans (h.mono (by rw [hs]; omega))

set_option maxHeartbeats 4000000 in
set_option maxRecDepth 100000 in
theorem samevec_same (X : Vc) (p q : Sl) (w : World) (hf : fit X) (hp : VecAt w X p) (hq : VecAt w X q) :
    Calls Tryz.prog 45 #[vecV X p, vecV X q] w fun e w' => e = .returned (.bool true) ∧ Below w.heap.size w w' := by
  rw [vecV_open, vecV_open]
  have HP := hide hp
  have HQ := hide hq
  obtain ⟨l1, l2, l3⟩ := hf
  unfold maxLen at l1 l2 l3
  clear hp hq
  obtain ⟨W2, hW2⟩ : ∃ W2, W2 = two w (.int .i64 X.k) (.slice p.a1 X.nl.length p.c1) (.slice p.a2 X.ns.length p.c2) (.slice p.a3 X.ss.length p.c3) (.int .i64 X.k) (.slice q.a1 X.nl.length q.c1) (.slice q.a2 X.ns.length q.c2) (.slice q.a3 X.ss.length q.c3) := ⟨_, rfl⟩
  have HW2 := hide hW2
  go_enter Tryz.func45, Tryz.ntmps45
  go_wp2_with fail
  go_loopw [43] (fun i wr => ∃ k : Nat, k ≤ X.nl.length ∧ i = .int .i64 k ∧ Below W2.heap.size W2 wr) (fun i _ => X.nl.length - (intOf i).toNat)
  case atStart => exact ⟨0, Nat.zero_le _, rfl, by rw [hW2]; exact Below.refl _ _⟩
  case round =>
    clear hW2
    obtain ⟨k, hkl, rfl, hb⟩ := hrel
    have hb' := hb
    rw [unhide HW2] at hb'
    obtain ⟨⟨v2, v3, v4⟩, ⟨u2, u3, u4⟩, hB⟩ := two_facts hb'
    by_cases h1 : k < X.nl.length
    · obtain ⟨x, hx⟩ : ∃ x, X.nl[k]? = some x := ⟨_, List.getElem?_eq_getElem h1⟩
      obtain ⟨pb, po, ep, cp⟩ := ((unhide HP).later hB).1.get (k := k) (x := .bool x) (by simp [hx])
      obtain ⟨qb, qo, eq, cq⟩ := ((unhide HQ).later hB).1.get (k := k) (x := .bool x) (by simp [hx])
      rw [ep] at v2
      rw [eq] at u2
      have k0 := cell_regrown v2
      have k1 := cell_regrown u2
      have k2 := cell_regrown cp
      have k3 := cell_regrown cq
      have i1 : (k : Int) < (X.nl.length : Int) := by omega
      clear ep eq hx hb'
      go_wp2_with fail
      refine wp_region_quiet_below (by kernel_rfl) (by kernel_rfl) ?_
      repeat (go_big_quiet_step (fail))
      refine wpQuiet_nil ?_
      intro w' hw'
      have hB2 : Below wr.heap.size wr w' := by obtain ⟨p, rfl⟩ := hw'; exact below_regrown _ _ _
      clear hw'
      have hbel' := below_step hb hB2
      go_wp2
      go_roundw
      case rel => exact ⟨k + 1, by omega, by go_num, hbel'⟩
      case measure => simp [intOf]; omega
    · have i1 : ¬ (k : Int) < (X.nl.length : Int) := by omega
      obtain ⟨W3, rfl⟩ : ∃ W3, W3 = wr := ⟨_, rfl⟩
      go_wp2
      clear hb' v2 v3 v4 u2 u3 u4 hB hkl h1 i1
      go_loopw [61] (fun i wr => ∃ k : Nat, k ≤ X.ns.length ∧ i = .int .i64 k ∧ Below W2.heap.size W2 wr) (fun i _ => X.ns.length - (intOf i).toNat)
      case atStart => exact ⟨0, Nat.zero_le _, rfl, hb⟩
      case round =>
        clear hb
        obtain ⟨k, hkl, rfl, hb⟩ := hrel
        have hb' := hb
        rw [unhide HW2] at hb'
        obtain ⟨⟨v2, v3, v4⟩, ⟨u2, u3, u4⟩, hB⟩ := two_facts hb'
        by_cases h1 : k < X.ns.length
        · obtain ⟨x, hx⟩ : ∃ x, X.ns[k]? = some x := ⟨_, List.getElem?_eq_getElem h1⟩
          obtain ⟨pb, po, ep, cp⟩ := ((unhide HP).later hB).2.1.get (k := k) (x := .int .i64 x) (by simp [hx])
          obtain ⟨qb, qo, eq, cq⟩ := ((unhide HQ).later hB).2.1.get (k := k) (x := .int .i64 x) (by simp [hx])
          rw [ep] at v3
          rw [eq] at u3
          have k0 := cell_regrown v3
          have k1 := cell_regrown u3
          have k2 := cell_regrown cp
          have k3 := cell_regrown cq
          have i1 : (k : Int) < (X.ns.length : Int) := by omega
          clear ep eq hx hb'
          go_wp2_with fail
          refine wp_region_quiet_below (by kernel_rfl) (by kernel_rfl) ?_
          repeat (go_big_quiet_step (fail))
          refine wpQuiet_nil ?_
          intro w' hw'
          have hB2 : Below wr.heap.size wr w' := by obtain ⟨p, rfl⟩ := hw'; exact below_regrown _ _ _
          clear hw'
          have hbel' := below_step hb hB2
          go_wp2
          go_roundw
          case rel => exact ⟨k + 1, by omega, by go_num, hbel'⟩
          case measure => simp [intOf]; omega
        · have i1 : ¬ (k : Int) < (X.ns.length : Int) := by omega
          obtain ⟨W3, rfl⟩ : ∃ W3, W3 = wr := ⟨_, rfl⟩
          go_wp2
          clear hb' v2 v3 v4 u2 u3 u4 hB hkl h1 i1
          go_loopw [79] (fun i wr => ∃ k : Nat, k ≤ X.ss.length ∧ i = .int .i64 k ∧ Below W2.heap.size W2 wr) (fun i _ => X.ss.length - (intOf i).toNat)
          case atStart => exact ⟨0, Nat.zero_le _, rfl, hb⟩
          case round =>
            clear hb
            obtain ⟨k, hkl, rfl, hb⟩ := hrel
            have hb' := hb
            rw [unhide HW2] at hb'
            obtain ⟨⟨v2, v3, v4⟩, ⟨u2, u3, u4⟩, hB⟩ := two_facts hb'
            by_cases h1 : k < X.ss.length
            · obtain ⟨x, hx⟩ : ∃ x, X.ss[k]? = some x := ⟨_, List.getElem?_eq_getElem h1⟩
              obtain ⟨pb, po, ep, cp⟩ := ((unhide HP).later hB).2.2.get (k := k) (x := .string x) (by simp [hx])
              obtain ⟨qb, qo, eq, cq⟩ := ((unhide HQ).later hB).2.2.get (k := k) (x := .string x) (by simp [hx])
              rw [ep] at v4
              rw [eq] at u4
              have k0 := cell_regrown v4
              have k1 := cell_regrown u4
              have k2 := cell_regrown cp
              have k3 := cell_regrown cq
              have i1 : (k : Int) < (X.ss.length : Int) := by omega
              clear ep eq hx hb'
              go_wp2_with fail
              refine wp_region_quiet_below (by kernel_rfl) (by kernel_rfl) ?_
              repeat (go_big_quiet_step (fail))
              refine wpQuiet_nil ?_
              intro w' hw'
              have hB2 : Below wr.heap.size wr w' := by obtain ⟨p, rfl⟩ := hw'; exact below_regrown _ _ _
              clear hw'
              have hbel' := below_step hb hB2
              go_wp2
              go_roundw
              case rel => exact ⟨k + 1, by omega, by go_num, hbel'⟩
              case measure => simp [intOf]; omega
            · have i1 : ¬ (k : Int) < (X.ss.length : Int) := by omega
              clear hb'
              go_wp2
              go_ret
              exact ⟨rfl, hB⟩
end Go.Proofs.YtmjeiepljlepbacGreat.Vv
set_option linter.unusedSimpArgs false
set_option maxRecDepth 100000
set_option linter.unusedVariables false
namespace Go.Proofs.YtmjeiepljlepbacGreat.Vv
open Go.RowKit Go.Sort

section
variable {α : Type}
theorem hitG {p : α → Bool} {ys : List α} {k : Nat} {y : α} (h : ys[k]? = some y) (hp : p y = true) : ys.any p = true :=
  List.any_eq_true.2 ⟨y, List.mem_of_getElem? h, hp⟩
theorem noneG {p : α → Bool} {ys : List α} (h : ∀ i y, i < ys.length → ys[i]? = some y → p y = false) : ys.any p = false := by
  rw [List.any_eq_false]
  intro y hy
  obtain ⟨i, hi⟩ := List.mem_iff_getElem?.1 hy
  rw [h i y (List.getElem?_eq_some_iff.1 hi).1 hi]; simp
theorem stepG {p : α → Bool} {ys : List α} {k : Nat} {y : α} (h : ∀ i y, i < k → ys[i]? = some y → p y = false) (hy : ys[k]? = some y) (hp : p y = false) : ∀ i y, i < k + 1 → ys[i]? = some y → p y = false := by
  intro i z hi hz
  by_cases e : i = k
  · subst e; rw [hy] at hz; cases hz; exact hp
  · exact h i z (by omega) hz
end
theorem zip_get {α β : Type} {xs : List α} {ys : List β} {k : Nat} {a : α} {b : β} (h1 : xs[k]? = some a) (h2 : ys[k]? = some b) : (xs.zip ys)[k]? = some (a, b) := by
  rw [List.getElem?_zip_eq_some]; exact ⟨h1, h2⟩

def badN (p : Bool × Int) : Bool := p.1 && p.2 != 0
def badS (p : Bool × ByteArray) : Bool := p.1 && !p.2.toList.isEmpty
def znN (nl : List Bool) (ns : List Int) : Bool := nl.length == ns.length && !(nl.zip ns).any badN
def znS (nl : List Bool) (ss : List ByteArray) : Bool := nl.length == ss.length && !(nl.zip ss).any badS

set_option maxHeartbeats 2000000 in
theorem zeroN_any (a1 a2 : Option Addr) (c1 c2 : Nat) (nl : List Bool) (ns : List Int) (w : World) (l1 : nl.length ≤ 140737488355328) (l2 : ns.length ≤ 140737488355328) (h1 : LisAt w a1 (nl.map .bool)) (h2 : LisAt w a2 (ns.map (.int .i64))) :
    Calls Tryz.prog 50 #[.slice a1 nl.length c1, .slice a2 ns.length c2] w fun e w' => e = .returned (.bool (znN nl ns)) ∧ w' = w := by
  have H1 := hide h1
  have H2 := hide h2
  clear h1 h2
  by_cases e : nl.length = ns.length
  · obtain ⟨n, hn⟩ : ∃ n, n = ns.length := ⟨_, rfl⟩
    have HZ : Hid (znN nl ns = !(nl.zip ns).any badN) := by show _ = _; simp [znN, e]
    have HZL : Hid ((nl.zip ns).length = n) := by show _ = _; simp [e, hn]
    have HE1 : Hid (nl.length = n) := by show _ = _; rw [e, hn]
    have HE2 : Hid (ns.length = n) := hn.symm
    rw [e, ← hn]
    rw [← hn] at l2
    clear e hn l1
    generalize znN nl ns = Z at HZ ⊢
    go_enter Tryz.func50, Tryz.ntmps50
    go_wp2_with fail
    go_loopw [15] (fun i wr => ∃ k : Nat, k ≤ n ∧ i = .int .i64 k ∧ Hid (∀ i y, i < k → (nl.zip ns)[i]? = some y → badN y = false) ∧ wr = w) (fun i _ => n - (intOf i).toNat)
    case atStart => exact ⟨0, Nat.zero_le _, rfl, fun i y h => by omega, rfl⟩
    case round =>
      obtain ⟨k, hk, rfl, HN, rfl⟩ := hrel
      by_cases h1 : k < n
      · obtain ⟨b, hb⟩ : ∃ b, nl[k]? = some b := ⟨_, List.getElem?_eq_getElem (by rw [unhide HE1]; exact h1)⟩
        obtain ⟨m, hm⟩ : ∃ m, ns[k]? = some m := ⟨_, List.getElem?_eq_getElem (by rw [unhide HE2]; exact h1)⟩
        obtain ⟨pb, po, rfl, cp⟩ := (unhide H1).get (k := k) (x := .bool b) (by simp [hb])
        obtain ⟨qb, qo, rfl, cq⟩ := (unhide H2).get (k := k) (x := .int .i64 m) (by simp [hm])
        have HS := hide (zip_get hb hm)
        have i1 : (k : Int) < (n : Int) := by omega
        clear hb hm
        cases b
        · have HP := hide (stepG (unhide HN) (unhide HS) (by simp [badN]))
          go_wp2
          go_roundw
          case rel => exact ⟨k + 1, by omega, by go_num, HP, by first | rfl | trivial⟩
          case measure => simp [intOf]; omega
        · rcases Bool.eq_false_or_eq_true (m != 0) with em | em
          · have HE : Hid (Z = false) := by show _ = _; rw [unhide HZ, hitG (unhide HS) (by simpa [badN] using em)]; rfl
            go_wp2
            go_ret
            exact ⟨by rw [unhide HE]; rfl, rfl⟩
          · have HP := hide (stepG (unhide HN) (unhide HS) (by simpa [badN] using em))
            go_wp2
            go_roundw
            case rel => exact ⟨k + 1, by omega, by go_num, HP, by first | rfl | trivial⟩
            case measure => simp [intOf]; omega
      · have i1 : ¬ (k : Int) < (n : Int) := by omega
        have HE : Hid (Z = true) := by
          show _ = _
          have e : k = n := by omega
          rw [unhide HZ, noneG (by rw [unhide HZL, ← e]; exact unhide HN)]; rfl
        go_wp2
        go_ret
        exact ⟨by rw [unhide HE]; rfl, rfl⟩
  · have HZ : Hid (znN nl ns = false) := by show _ = _; simp [znN, e]
    have e' : ((nl.length : Int) != (ns.length : Int)) = true := by simp; omega
    clear e
    generalize znN nl ns = Z at HZ ⊢
    go_enter Tryz.func50, Tryz.ntmps50
    go_wp2
    go_ret
    exact ⟨by rw [unhide HZ]; rfl, rfl⟩
set_option maxHeartbeats 2000000 in
theorem zeroS_any (a1 a2 : Option Addr) (c1 c2 : Nat) (nl : List Bool) (ns : List ByteArray) (w : World) (l1 : nl.length ≤ 140737488355328) (l2 : ns.length ≤ 140737488355328) (h1 : LisAt w a1 (nl.map .bool)) (h2 : LisAt w a2 (ns.map .string)) :
    Calls Tryz.prog 51 #[.slice a1 nl.length c1, .slice a2 ns.length c2] w fun e w' => e = .returned (.bool (znS nl ns)) ∧ w' = w := by
  have H1 := hide h1
  have H2 := hide h2
  clear h1 h2
  by_cases e : nl.length = ns.length
  · obtain ⟨n, hn⟩ : ∃ n, n = ns.length := ⟨_, rfl⟩
    have HZ : Hid (znS nl ns = !(nl.zip ns).any badS) := by show _ = _; simp [znS, e]
    have HZL : Hid ((nl.zip ns).length = n) := by show _ = _; simp [e, hn]
    have HE1 : Hid (nl.length = n) := by show _ = _; rw [e, hn]
    have HE2 : Hid (ns.length = n) := hn.symm
    rw [e, ← hn]
    rw [← hn] at l2
    clear e hn l1
    generalize znS nl ns = Z at HZ ⊢
    go_enter Tryz.func51, Tryz.ntmps51
    go_wp2_with fail
    go_loopw [15] (fun i wr => ∃ k : Nat, k ≤ n ∧ i = .int .i64 k ∧ Hid (∀ i y, i < k → (nl.zip ns)[i]? = some y → badS y = false) ∧ wr = w) (fun i _ => n - (intOf i).toNat)
    case atStart => exact ⟨0, Nat.zero_le _, rfl, fun i y h => by omega, rfl⟩
    case round =>
      obtain ⟨k, hk, rfl, HN, rfl⟩ := hrel
      by_cases h1 : k < n
      · obtain ⟨b, hb⟩ : ∃ b, nl[k]? = some b := ⟨_, List.getElem?_eq_getElem (by rw [unhide HE1]; exact h1)⟩
        obtain ⟨m, hm⟩ : ∃ m, ns[k]? = some m := ⟨_, List.getElem?_eq_getElem (by rw [unhide HE2]; exact h1)⟩
        obtain ⟨pb, po, rfl, cp⟩ := (unhide H1).get (k := k) (x := .bool b) (by simp [hb])
        obtain ⟨qb, qo, rfl, cq⟩ := (unhide H2).get (k := k) (x := .string m) (by simp [hm])
        have HS := hide (zip_get hb hm)
        have i1 : (k : Int) < (n : Int) := by omega
        clear hb hm
        cases b
        · have HP := hide (stepG (unhide HN) (unhide HS) (by simp [badS]))
          go_wp2
          go_roundw
          case rel => exact ⟨k + 1, by omega, by go_num, HP, by first | rfl | trivial⟩
          case measure => simp [intOf]; omega
        · rcases Bool.eq_false_or_eq_true (!m.toList.isEmpty) with em | em
          · have HE : Hid (Z = false) := by show _ = _; rw [unhide HZ, hitG (unhide HS) (by simpa [badS] using em)]; rfl
            go_wp2
            go_ret
            exact ⟨by rw [unhide HE]; rfl, rfl⟩
          · have HP := hide (stepG (unhide HN) (unhide HS) (by simpa [badS] using em))
            go_wp2
            go_roundw
            case rel => exact ⟨k + 1, by omega, by go_num, HP, by first | rfl | trivial⟩
            case measure => simp [intOf]; omega
      · have i1 : ¬ (k : Int) < (n : Int) := by omega
        have HE : Hid (Z = true) := by
          show _ = _
          have e : k = n := by omega
          rw [unhide HZ, noneG (by rw [unhide HZL, ← e]; exact unhide HN)]; rfl
        go_wp2
        go_ret
        exact ⟨by rw [unhide HE]; rfl, rfl⟩
  · have HZ : Hid (znS nl ns = false) := by show _ = _; simp [znS, e]
    have e' : ((nl.length : Int) != (ns.length : Int)) = true := by simp; omega
    clear e
    generalize znS nl ns = Z at HZ ⊢
    go_enter Tryz.func51, Tryz.ntmps51
    go_wp2
    go_ret
    exact ⟨by rw [unhide HZ]; rfl, rfl⟩
end Go.Proofs.YtmjeiepljlepbacGreat.Vv
set_option linter.unusedSimpArgs false
set_option maxRecDepth 100000
set_option linter.unusedVariables false
namespace Go.Proofs.YtmjeiepljlepbacGreat.Vv
open Go.RowKit Go.Sort

set_option maxHeartbeats 2000000 in
theorem index_any (a : Option Addr) (c : Nat) (ss : List ByteArray) (w : World) (l : ss.length ≤ 140737488355328) (h : LisAt w a (ss.map .string)) :
    Calls Tryz.prog 91 #[.slice a ss.length c, .func (.func 48) #[] #[]] w fun e w' => (∃ i : Int, e = .returned (.int .i64 i) ∧ Hid (decide (0 ≤ i) = ss.any largeB)) ∧ w' = w := by
  have H := hide h
  clear h
  go_enter Tryz.func91, Tryz.ntmps91
  go_wp2_with fail
  go_loopw [8] (fun i wr => ∃ k : Nat, k ≤ ss.length ∧ i = .int .i64 k ∧ Hid (∀ i y, i < k → ss[i]? = some y → largeB y = false) ∧ wr = w) (fun i _ => ss.length - (intOf i).toNat)
  case atStart => exact ⟨0, Nat.zero_le _, rfl, fun i y h => by omega, rfl⟩
  case round =>
    obtain ⟨k, hk, rfl, HN, rfl⟩ := hrel
    by_cases h1 : k < ss.length
    · obtain ⟨s, hs⟩ : ∃ s, ss[k]? = some s := ⟨_, List.getElem?_eq_getElem h1⟩
      obtain ⟨pb, po, rfl, cp⟩ := (unhide H).get (k := k) (x := .string s) (by simp [hs])
      have HS := hide hs
      have i1 : (k : Int) < (ss.length : Int) := by omega
      clear hs
      rcases Bool.eq_false_or_eq_true (largeB s) with e1 | e1
      · have HE : Hid (decide (0 ≤ (k : Int)) = ss.any largeB) := by show _ = _; rw [hitG (unhide HS) e1]; simp
        go_wp2_with (go_at_call 48; refine (islarge_any _ _).mono ?_; rintro e w1 ⟨rfl, rfl⟩)
        go_ret
        exact ⟨⟨_, rfl, HE⟩, rfl⟩
      · have HP := hide (stepG (unhide HN) (unhide HS) e1)
        go_wp2_with (go_at_call 48; refine (islarge_any _ _).mono ?_; rintro e w1 ⟨rfl, rfl⟩)
        go_roundw
        case rel => exact ⟨k + 1, by omega, by go_num, HP, by first | rfl | trivial⟩
        case measure => simp [intOf]; omega
    · have i1 : ¬ (k : Int) < (ss.length : Int) := by omega
      have HE : Hid (decide (0 ≤ (-1 : Int)) = ss.any largeB) := by
        show _ = _
        have e : k = ss.length := by omega
        rw [noneG (by rw [← e]; exact unhide HN)]; rfl
      go_wp2
      go_ret
      exact ⟨⟨_, rfl, HE⟩, rfl⟩
theorem contains_any (a : Option Addr) (c : Nat) (ss : List ByteArray) (w : World) (l : ss.length ≤ 140737488355328) (h : LisAt w a (ss.map .string)) :
    Calls Tryz.prog 52 #[.slice a ss.length c, .func (.func 48) #[] #[]] w fun e w' => e = .returned (.bool (ss.any largeB)) ∧ w' = w := by
  have HI := hide (index_any a c ss w l h)
  generalize ss.any largeB = Z at HI ⊢
  clear h l
  go_enter Tryz.func52, Tryz.ntmps52
  go_wp2_with (go_at_call 91; refine (unhide HI).mono ?_; rintro e w1 ⟨⟨i, rfl, HE⟩, rfl⟩)
  go_ret
  exact ⟨by rw [← unhide HE]; rfl, rfl⟩

def small (X : Vc) : Prop := X.nl.length ≤ 140737488355328 ∧ X.ns.length ≤ 140737488355328 ∧ X.ss.length ≤ 140737488355328
def goodB (X : Vc) : Bool :=
  if X.k == 1 then X.ss.length == 0 && znN X.nl X.ns
  else if X.k == 2 then (X.ns.length == 0 && znS X.nl X.ss) && !X.ss.any largeB
  else false

set_option maxHeartbeats 2000000 in
theorem good_any (X : Vc) (p : Sl) (w : World) (hs : small X) (hp : VecAt w X p) :
    Calls Tryz.prog 8 #[vecV X p] w fun e w' => e = .returned (.bool (goodB X)) ∧ Below w.heap.size w w' := by
  rw [vecV_open]
  obtain ⟨l1, l2, l3⟩ := hs
  have HN : Hid (∀ w', Below w.heap.size w w' → Calls Tryz.prog 50 #[.slice p.a1 X.nl.length p.c1, .slice p.a2 X.ns.length p.c2] w' fun e w'' => e = .returned (.bool (znN X.nl X.ns)) ∧ w'' = w') :=
    fun w' hb => zeroN_any _ _ _ _ _ _ _ l1 l2 (hp.1.later hb) (hp.2.1.later hb)
  have HT : Hid (∀ w', Below w.heap.size w w' → Calls Tryz.prog 51 #[.slice p.a1 X.nl.length p.c1, .slice p.a3 X.ss.length p.c3] w' fun e w'' => e = .returned (.bool (znS X.nl X.ss)) ∧ w'' = w') :=
    fun w' hb => zeroS_any _ _ _ _ _ _ _ l1 l3 (hp.1.later hb) (hp.2.2.later hb)
  have HC : Hid (∀ w', Below w.heap.size w w' → Calls Tryz.prog 52 #[.slice p.a3 X.ss.length p.c3, .func (.func 48) #[] #[]] w' fun e w'' => e = .returned (.bool (X.ss.any largeB)) ∧ w'' = w') :=
    fun w' hb => contains_any _ _ _ _ l3 (hp.2.2.later hb)
  clear hp
  rcases Bool.eq_false_or_eq_true (X.k == 1) with k1 | k1
  · have HG : Hid (goodB X = (X.ss.length == 0 && znN X.nl X.ns)) := by show _ = _; simp [goodB, k1]
    generalize goodB X = G at HG ⊢
    by_cases z : X.ss.length = 0
    · have z' : ((X.ss.length : Int) == 0) = true := by simp [z]
      have HE : Hid (G = znN X.nl X.ns) := by show _ = _; rw [unhide HG, z]; simp
      clear z HG
      generalize znN X.nl X.ns = Z at HE HN
      go_enter Tryz.func8, Tryz.ntmps8
      go_wp2_with (go_at_call 50; refine (unhide HN _ (below_alloc (Below.refl _ _) _)).mono ?_; rintro e w1 ⟨rfl, rfl⟩)
      go_ret
      exact ⟨by rw [unhide HE]; rfl, below_alloc (Below.refl _ _) _⟩
    · have z' : ((X.ss.length : Int) == 0) = false := by simp; intro e; exact z (by rw [e]; rfl)
      have HE : Hid (G = false) := by show _ = _; rw [unhide HG]; simp; intro e; exact absurd (by rw [e]; rfl) z
      clear z HG
      go_enter Tryz.func8, Tryz.ntmps8
      go_wp2
      go_ret
      exact ⟨by rw [unhide HE]; rfl, below_alloc (Below.refl _ _) _⟩
  · rcases Bool.eq_false_or_eq_true (X.k == 2) with k2 | k2
    · have HG : Hid (goodB X = ((X.ns.length == 0 && znS X.nl X.ss) && !X.ss.any largeB)) := by show _ = _; simp [goodB, k1, k2]
      generalize goodB X = G at HG ⊢
      generalize znS X.nl X.ss = Z at HG HT
      generalize X.ss.any largeB = L at HG HC
      by_cases z : X.ns.length = 0
      · have z' : ((X.ns.length : Int) == 0) = true := by simp [z]
        have HE : Hid (G = (Z && !L)) := by show _ = _; rw [unhide HG, z]; simp
        clear z HG
        cases Z
        · go_enter Tryz.func8, Tryz.ntmps8
          go_wp2_with (go_at_call 51; refine (unhide HT _ (below_alloc (Below.refl _ _) _)).mono ?_; rintro e w1 ⟨rfl, rfl⟩)
          go_ret
          exact ⟨by rw [unhide HE]; rfl, below_alloc (Below.refl _ _) _⟩
        · go_enter Tryz.func8, Tryz.ntmps8
          go_wp2_with (first | (go_at_call 51; refine (unhide HT _ (below_alloc (Below.refl _ _) _)).mono ?_; rintro e w1 ⟨rfl, rfl⟩) | (go_at_call 52; refine (unhide HC _ (below_alloc (Below.refl _ _) _)).mono ?_; rintro e w1 ⟨rfl, rfl⟩))
          go_ret
          exact ⟨by rw [unhide HE]; rfl, below_alloc (Below.refl _ _) _⟩
      · have z' : ((X.ns.length : Int) == 0) = false := by simp; intro e; exact z (by rw [e]; rfl)
        have HE : Hid (G = false) := by show _ = _; rw [unhide HG]; simp; intro e; exact absurd (by rw [e]; rfl) z
        clear z HG
        go_enter Tryz.func8, Tryz.ntmps8
        go_wp2
        go_ret
        exact ⟨by rw [unhide HE]; rfl, below_alloc (Below.refl _ _) _⟩
    · have HE : Hid (goodB X = false) := by show _ = _; simp [goodB, k1, k2]
      generalize goodB X = G at HE ⊢
      go_enter Tryz.func8, Tryz.ntmps8
      go_wp2
      go_ret
      exact ⟨by rw [unhide HE]; rfl, below_alloc (Below.refl _ _) _⟩
end Go.Proofs.YtmjeiepljlepbacGreat.Vv

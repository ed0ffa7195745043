import Derived.Test.YthbfomcmjjnikaaGreatRows
import Derived.WalkKit
import Derived.WalkSpells
import Derived.WalkLawsBesides
import Derived.StillTactics
import Derived.Deep.RegionHeld3
import Derived.Lib.QuietBelow
import Derived.BigQuiet
import Derived.RowKit3
import Derived.Deep.DeepCutAuto
import Derived.Deep.DrawnRows
import Derived.Lib.Bytealg
import Derived.Maps.AppendAt
import Derived.Deep.AppendLies
import Derived.Deep.OwnRows
set_option linter.unusedSimpArgs false
set_option linter.unusedVariables false
namespace Go.Proofs.YthbfomcmjjnikaaGreat
open Go.RowKit Go.Sort

/-- A value of the program: its kind, its number, its text. -/
structure Val where
  k : Int
  n : Int
  s : ByteArray

def Val.v (x : Val) : Value := .agg #[.int .i64 x.k, .int .i64 x.n, .string x.s]
theorem Val.open_ (x : Val) : x.v = .agg #[.int .i64 x.k, .int .i64 x.n, .string x.s] := rfl
def Val.null : Val := ⟨0, 0, ⟨#[]⟩⟩
def Val.num (n : Int) : Val := ⟨1, n, ⟨#[]⟩⟩
def Val.str (s : ByteArray) : Val := ⟨2, 0, s⟩
def trueB (x : Val) : Bool := x.k == 1 && x.n != 0
def cleanV (x : Val) : Val := if x.k == 1 then .num x.n else if x.k == 2 then .str x.s else .null
def kindB (k : Int) : Bool := k == 1 || k == 2
def largeB (s : ByteArray) : Bool := decide ((1000 : Int) < (s.size : Int))

theorem hide {p : Prop} (h : p) : Hid p := h
theorem unhide {p : Prop} (h : Hid p) : p := h
theorem below_step {W0 w' w1 : World} (h : Below W0.heap.size W0 w') (h1 : Below w'.heap.size w' w1) : Below W0.heap.size W0 w1 := h.trans (h1.mono h.size)
theorem below_alloc {W0 w' : World} (h : Below W0.heap.size W0 w') (o : Obj) : Below W0.heap.size W0 (w'.alloc o) := h.alloc h.size o
theorem bcell {W w1 : World} (hb : Below W.heap.size W w1) : (∀ b o, b < W.heap.size → w1.cell? ⟨b, o, none⟩ = W.cell? ⟨b, o, none⟩) ∧ (∀ b o, b < W.heap.size → w1.frozen? ⟨b, o, none⟩ = W.frozen? ⟨b, o, none⟩) :=
  ⟨fun b o h => hb.cell (p := ⟨b, o, none⟩) h, fun b o h => hb.frozen (p := ⟨b, o, none⟩) h⟩

theorem number_any (n : Int) (w : World) :
    Calls Tryz.prog 75 #[.int .i64 n] w fun e w' => e = .returned (Val.num n).v ∧ Below w.heap.size w w' := by
  unfold Val.v Val.num
  go_enter Tryz.func75, Tryz.ntmps75
  go_wp2
  exact bodyPost_ret (v := .agg #[.int .i64 1, .int .i64 n, .string ⟨#[]⟩]) (by simp [results, Tryz.results75, go_sem]) rfl ⟨rfl, (Below.refl _ _).alloc (Nat.le_refl _) _⟩

theorem text_any (s : ByteArray) (w : World) :
    Calls Tryz.prog 76 #[.string s] w fun e w' => e = .returned (Val.str s).v ∧ Below w.heap.size w w' := by
  unfold Val.v Val.str
  go_enter Tryz.func76, Tryz.ntmps76
  go_wp2
  exact bodyPost_ret (v := .agg #[.int .i64 2, .int .i64 0, .string s]) (by simp [results, Tryz.results76, go_sem]) rfl ⟨rfl, (Below.refl _ _).alloc (Nat.le_refl _) _⟩
theorem rnum_any (n : Int) (w : World) :
    Calls Tryz.prog 37 #[.int .i64 n] w fun e w' => e = .returned (Val.num n).v ∧ Below w.heap.size w w' := by
  unfold Val.v Val.num
  go_enter Tryz.func37, Tryz.ntmps37
  go_wp2
  exact bodyPost_ret (v := .agg #[.int .i64 1, .int .i64 n, .string ⟨#[]⟩]) (by simp [results, Tryz.results37, go_sem]) rfl ⟨rfl, (Below.refl _ _).alloc (Nat.le_refl _) _⟩
theorem rstr_any (s : ByteArray) (w : World) :
    Calls Tryz.prog 60 #[.string s] w fun e w' => e = .returned (Val.str s).v ∧ Below w.heap.size w w' := by
  unfold Val.v Val.str
  go_enter Tryz.func60, Tryz.ntmps60
  go_wp2
  exact bodyPost_ret (v := .agg #[.int .i64 2, .int .i64 0, .string s]) (by simp [results, Tryz.results60, go_sem]) rfl ⟨rfl, (Below.refl _ _).alloc (Nat.le_refl _) _⟩
theorem none_any (w : World) :
    Calls Tryz.prog 61 #[] w fun e w' => e = .returned Val.null.v ∧ Below w.heap.size w w' := by
  unfold Val.v Val.null
  go_enter Tryz.func61, Tryz.ntmps61
  go_wp2
  exact bodyPost_ret (v := .agg #[.int .i64 0, .int .i64 0, .string ⟨#[]⟩]) (by simp [results, Tryz.results61, go_sem]) rfl ⟨rfl, (Below.refl _ _).alloc (Nat.le_refl _) _⟩

set_option maxHeartbeats 1000000 in
theorem clean_any (x : Val) (w : World) :
    Calls Tryz.prog 52 #[x.v] w fun e w' => e = .returned (cleanV x).v ∧ Below w.heap.size w w' := by
  rw [x.open_]
  rcases Bool.eq_false_or_eq_true (x.k == 1) with k1 | k1
  · have hv : cleanV x = .num x.n := by simp [cleanV, k1]
    rw [hv]
    clear hv
    go_enter Tryz.func52, Tryz.ntmps52
    go_wp2_with (go_at_call 75; refine (number_any _ _).mono ?_; rintro e w1 ⟨rfl, hb1⟩; obtain ⟨hc1, hf1⟩ := bcell hb1; rw [Val.open_])
    refine bodyPost_ret (v := (Val.num x.n).v) (by simp [results, Tryz.results52, go_sem, Val.v, Val.num, hc1, hf1]) rfl ⟨rfl, ?_⟩
    (repeat (first | exact Below.refl _ _ | refine Below.alloc ?_ (by simp <;> omega) _ | refine Below.setCell ?_ (by simp <;> omega) _ | refine Below.trans ?_ (Below.mono (by assumption) (by first | omega | (simp; omega)))))
  · rcases Bool.eq_false_or_eq_true (x.k == 2) with k2 | k2
    · have hv : cleanV x = .str x.s := by simp [cleanV, k1, k2]
      rw [hv]
      clear hv
      go_enter Tryz.func52, Tryz.ntmps52
      go_wp2_with (go_at_call 76; refine (text_any _ _).mono ?_; rintro e w1 ⟨rfl, hb1⟩; obtain ⟨hc1, hf1⟩ := bcell hb1; rw [Val.open_])
      refine bodyPost_ret (v := (Val.str x.s).v) (by simp [results, Tryz.results52, go_sem, Val.v, Val.str, hc1, hf1]) rfl ⟨rfl, ?_⟩
      (repeat (first | exact Below.refl _ _ | refine Below.alloc ?_ (by simp <;> omega) _ | refine Below.setCell ?_ (by simp <;> omega) _ | refine Below.trans ?_ (Below.mono (by assumption) (by first | omega | (simp; omega)))))
    · have hv : cleanV x = .null := by simp [cleanV, k1, k2]
      rw [hv]
      clear hv
      go_enter Tryz.func52, Tryz.ntmps52
      go_wp2
      refine bodyPost_ret (v := Val.null.v) (by simp [results, Tryz.results52, go_sem, Val.v, Val.null]) rfl ⟨rfl, ?_⟩
      (repeat (first | exact Below.refl _ _ | refine Below.alloc ?_ (by simp <;> omega) _ | refine Below.setCell ?_ (by simp <;> omega) _))

set_option maxHeartbeats 1000000 in
theorem rclean_any (x : Val) (w : World) :
    Calls Tryz.prog 31 #[x.v] w fun e w' => e = .returned (cleanV x).v ∧ Below w.heap.size w w' := by
  rw [x.open_]
  rcases Bool.eq_false_or_eq_true (x.k == 1) with k1 | k1
  · have hv : cleanV x = .num x.n := by simp [cleanV, k1]
    rw [hv]
    clear hv
    go_enter Tryz.func31, Tryz.ntmps31
    go_wp2_with (go_at_call 37; refine (rnum_any _ _).mono ?_; rintro e w1 ⟨rfl, hb1⟩; obtain ⟨hc1, hf1⟩ := bcell hb1; rw [Val.open_])
    refine bodyPost_ret (v := (Val.num x.n).v) (by simp [results, Tryz.results31, go_sem, Val.v, Val.num, hc1, hf1]) rfl ⟨rfl, ?_⟩
    (repeat (first | exact Below.refl _ _ | refine Below.alloc ?_ (by simp <;> omega) _ | refine Below.setCell ?_ (by simp <;> omega) _ | refine Below.trans ?_ (Below.mono (by assumption) (by first | omega | (simp; omega)))))
  · rcases Bool.eq_false_or_eq_true (x.k == 2) with k2 | k2
    · have hv : cleanV x = .str x.s := by simp [cleanV, k1, k2]
      rw [hv]
      clear hv
      go_enter Tryz.func31, Tryz.ntmps31
      go_wp2_with (go_at_call 60; refine (rstr_any _ _).mono ?_; rintro e w1 ⟨rfl, hb1⟩; obtain ⟨hc1, hf1⟩ := bcell hb1; rw [Val.open_])
      refine bodyPost_ret (v := (Val.str x.s).v) (by simp [results, Tryz.results31, go_sem, Val.v, Val.str, hc1, hf1]) rfl ⟨rfl, ?_⟩
      (repeat (first | exact Below.refl _ _ | refine Below.alloc ?_ (by simp <;> omega) _ | refine Below.setCell ?_ (by simp <;> omega) _ | refine Below.trans ?_ (Below.mono (by assumption) (by first | omega | (simp; omega)))))
    · have hv : cleanV x = .null := by simp [cleanV, k1, k2]
      rw [hv]
      clear hv
      go_enter Tryz.func31, Tryz.ntmps31
      go_wp2_with (go_at_call 61; refine (none_any _).mono ?_; rintro e w1 ⟨rfl, hb1⟩; obtain ⟨hc1, hf1⟩ := bcell hb1; rw [Val.open_])
      refine bodyPost_ret (v := Val.null.v) (by simp [results, Tryz.results31, go_sem, Val.v, Val.null, hc1, hf1]) rfl ⟨rfl, ?_⟩
      (repeat (first | exact Below.refl _ _ | refine Below.alloc ?_ (by simp <;> omega) _ | refine Below.setCell ?_ (by simp <;> omega) _ | refine Below.trans ?_ (Below.mono (by assumption) (by first | omega | (simp; omega)))))


theorem iskind_any (k : Int) (w : World) :
    Calls Tryz.prog 51 #[.int .i64 k] w fun e w' => e = .returned (.bool (kindB k)) ∧ w' = w := by
  unfold kindB
  by_cases hk : (k == 1) = true
  · go_enter Tryz.func51, Tryz.ntmps51
    go_wp2
    go_ret
    exact ⟨by simp [hk], rfl⟩
  · have hk' : (k == 1) = false := by simpa using hk
    clear hk
    go_enter Tryz.func51, Tryz.ntmps51
    go_wp2
    go_ret
    exact ⟨by simp [hk'], rfl⟩
theorem islarge_any (s : ByteArray) (w : World) :
    Calls Tryz.prog 53 #[.string s] w fun e w' => e = .returned (.bool (largeB s)) ∧ w' = w := by
  unfold largeB
  go_enter Tryz.func53, Tryz.ntmps53
  go_wp2
  go_ret
  exact ⟨rfl, rfl⟩
theorem num_any (n : Int) (w : World) (h : -9223372036854775808 ≤ n ∧ n ≤ 9223372036854775807) :
    Calls Tryz.prog 7 #[.int .i64 n] w fun e w' => e = .returned (.int .i64 n) ∧ w' = w := by
  obtain ⟨h1, h2⟩ := h
  go_enter Tryz.func7, Tryz.ntmps7
  go_wp2
  go_ret
  exact ⟨rfl, rfl⟩
end Go.Proofs.YthbfomcmjjnikaaGreat
set_option linter.unusedSimpArgs false
set_option linter.unusedVariables false
namespace Go.Proofs.YthbfomcmjjnikaaGreat
open Go.RowKit Go.Sort

/-- A slice of values, as it lies in memory: the elements. -/
def RowAt (w : World) (a : Option Addr) (xs : List Val) : Prop :=
  xs = [] ∨ ∃ b off, a = some ⟨b, off, none⟩ ∧ ∀ i x, xs[i]? = some x → w.cell? ⟨b, off + i * 3, none⟩ = some (.int .i64 x.k) ∧ w.cell? ⟨b, off + i * 3 + 1, none⟩ = some (.int .i64 x.n) ∧ w.cell? ⟨b, off + i * 3 + 2, none⟩ = some (.string x.s)
theorem RowAt.later {w w' : World} {a : Option Addr} {xs : List Val} (h : RowAt w a xs) (hb : Below w.heap.size w w') : RowAt w' a xs := by
  rcases h with h | ⟨b, off, ha, h⟩
  · exact .inl h
  · exact .inr ⟨b, off, ha, fun i x hx => ⟨cell_later hb (h i x hx).1, cell_later hb (h i x hx).2.1, cell_later hb (h i x hx).2.2⟩⟩
/-- A slice of one-cell elements, as it lies in memory. -/
def LisAt (w : World) (a : Option Addr) (cs : List Value) : Prop :=
  cs = [] ∨ ∃ b off, a = some ⟨b, off, none⟩ ∧ ∀ i x, cs[i]? = some x → w.cell? ⟨b, off + i, none⟩ = some x
theorem LisAt.later {w w' : World} {a : Option Addr} {cs : List Value} (h : LisAt w a cs) (hb : Below w.heap.size w w') : LisAt w' a cs := by
  rcases h with h | ⟨b, off, ha, h⟩
  · exact .inl h
  · exact .inr ⟨b, off, ha, fun i x hx => cell_later hb (h i x hx)⟩

/-- A column: its kind, where there is no value, its numbers, its texts. -/
structure Vc where
  k : Int
  nl : List Bool
  ns : List Int
  ss : List ByteArray
def Vc.zero : Vc := ⟨0, [], [], []⟩
/-- A column's slices. -/
structure Sl where
  a1 : Option Addr
  c1 : Nat
  a2 : Option Addr
  c2 : Nat
  a3 : Option Addr
  c3 : Nat
def vecV (X : Vc) (p : Sl) : Value := .agg #[.int .i64 X.k, .slice p.a1 X.nl.length p.c1, .slice p.a2 X.ns.length p.c2, .slice p.a3 X.ss.length p.c3]
theorem vecV_open (X : Vc) (p : Sl) : vecV X p = .agg #[.int .i64 X.k, .slice p.a1 X.nl.length p.c1, .slice p.a2 X.ns.length p.c2, .slice p.a3 X.ss.length p.c3] := rfl
def VecAt (w : World) (X : Vc) (p : Sl) : Prop := LisAt w p.a1 (X.nl.map .bool) ∧ LisAt w p.a2 (X.ns.map (.int .i64)) ∧ LisAt w p.a3 (X.ss.map .string)
theorem VecAt.later {w w' : World} {X : Vc} {p : Sl} (h : VecAt w X p) (hb : Below w.heap.size w w') : VecAt w' X p := ⟨h.1.later hb, h.2.1.later hb, h.2.2.later hb⟩
theorem VecAt.zero (w : World) : VecAt w Vc.zero ⟨none, 0, none, 0, none, 0⟩ := ⟨.inl rfl, .inl rfl, .inl rfl⟩

/-- The slices lie in blocks from base on. -/
def Fresh (base : Nat) (p : Sl) : Prop := (∀ ad, p.a1 = some ad → base ≤ ad.block) ∧ (∀ ad, p.a2 = some ad → base ≤ ad.block) ∧ (∀ ad, p.a3 = some ad → base ≤ ad.block)
theorem Fresh.less {b c : Nat} {p : Sl} (h : Fresh c p) (hb : b ≤ c) : Fresh b p := ⟨fun ad e => Nat.le_trans hb (h.1 ad e), fun ad e => Nat.le_trans hb (h.2.1 ad e), fun ad e => Nat.le_trans hb (h.2.2 ad e)⟩
theorem LisAt.setO {w : World} {a : Option Addr} {base : Nat} {cs : List Value} (h : LisAt w a cs) (hf : ∀ ad, a = some ad → base ≤ ad.block) (x : Addr) (hx : x.block < base) (v : Value) : LisAt (w.setCell x v) a cs := by
  rcases h with h | ⟨b, off, e, h⟩
  · exact .inl h
  · subst e
    have := hf _ rfl
    exact .inr ⟨b, off, rfl, fun i y hy => (World.cell?_of_block (w := w) (Go.Deep.blk_setCell_other _ _ _ _ (by simp at this ⊢; omega))).trans (h i y hy)⟩
theorem VecAt.setO {w : World} {X : Vc} {p : Sl} {base : Nat} (h : VecAt w X p) (hf : Fresh base p) (x : Addr) (hx : x.block < base) (v : Value) : VecAt (w.setCell x v) X p :=
  ⟨h.1.setO hf.1 x hx v, h.2.1.setO hf.2.1 x hx v, h.2.2.setO hf.2.2 x hx v⟩
theorem VecAt.setO4 {w : World} {X : Vc} {p : Sl} {base B : Nat} (h : VecAt w X p) (hf : Fresh base p) (hx : B < base) (v0 v1 v2 v3 : Value) : VecAt ((((w.setCell ⟨B, 0, none⟩ v0).setCell ⟨B, 1, none⟩ v1).setCell ⟨B, 2, none⟩ v2).setCell ⟨B, 3, none⟩ v3) X p :=
  (((h.setO hf _ hx _).setO hf _ hx _).setO hf _ hx _).setO hf _ hx _

def nlOf (xs : List Val) : List Bool := xs.map (fun x => x.k == 0)
def laidV (kind : Int) (xs : List Val) : Vc := ⟨kind, nlOf xs, if kind = 1 then xs.map (·.n) else [], if kind = 1 then [] else xs.map (·.s)⟩

theorem Tryz.info4 : (Tryz.prog.info? 4).map (fun i => (i.zero, i.size, i.bytes)) = some (some (.bool false), 1, 1) := by kernel_rfl
theorem Tryz.info2 : (Tryz.prog.info? 2).map (fun i => (i.zero, i.size, i.bytes)) = some (some (.int .i64 0), 1, 8) := by kernel_rfl
theorem Tryz.info9 : (Tryz.prog.info? 9).map (fun i => (i.zero, i.size, i.bytes)) = some (some (.string ⟨#[]⟩), 1, 16) := by kernel_rfl
theorem Tryz.info59 : (Tryz.prog.info? 59).map (fun i => (i.zero, i.size, i.bytes)) = some (some (.agg #[.int .i64 0, .int .i64 0, .string ⟨#[]⟩]), 3, 32) := by kernel_rfl

/-- What a row of the call's own holds up to k. -/
def Holds (F : Nat → Value) (k : Nat) (cs : List Value) : Prop := ∀ i x, i < k → cs[i]? = some x → F i = x
theorem Holds.zero (F : Nat → Value) (cs : List Value) : Holds F 0 cs := fun i x h => by omega
theorem Holds.step {F : Nat → Value} {k : Nat} {cs : List Value} {v : Value} (h : Holds F k cs) (hv : cs[k]? = some v) : Holds (fun j => if j = k then v else F j) (k + 1) cs := by
  intro i x hi hx
  by_cases e : i = k
  · subst e; rw [hv] at hx; simpa using hx
  · show (if i = k then v else F i) = x
    rw [if_neg e]; exact h i x (by omega) hx
theorem lis_of_row {w : World} {g t n : Nat} {F : Nat → Value} {cs : List Value} (h : w.rowIs g t n F) (hl : cs.length = n) (hh : Holds F n cs) : LisAt w (some ⟨g, 0, none⟩) cs := by
  refine .inr ⟨g, 0, rfl, fun i x hx => ?_⟩
  have hi : i < n := by have := (List.getElem?_eq_some_iff.1 hx).1; omega
  rw [Nat.zero_add, h.cell hi, hh i x hi hx]

def box4 (a b c d : Value) : Nat → Value
  | 0 => a
  | 1 => b
  | 2 => c
  | _ => d
end Go.Proofs.YthbfomcmjjnikaaGreat
set_option linter.unusedSimpArgs false
set_option linter.unusedVariables false
namespace Go.Proofs.YthbfomcmjjnikaaGreat
open Go.RowKit Go.Sort

def noS : Value := .slice none 0 0
/-- What 'laid' has laid in the first k places: B the heap's size at the call. -/
def LInv (w0 w : World) (n k : Nat) (kind : Int) (s1 s2 s3 : Value) (t : Nat) (c1 c2 : List Value) : Prop :=
  Below w0.heap.size w0 w ∧ w.rowIs w0.heap.size 49 4 (box4 (.int .i64 0) noS noS noS) ∧ (∃ F, w.rowIs (w0.heap.size + 1) 4 n F ∧ Holds F k c1) ∧
  w.rowIs (w0.heap.size + 1 + 1) 49 4 (box4 (.int .i64 kind) s1 s2 s3) ∧ (∃ G, w.rowIs (w0.heap.size + 1 + 1 + 1) t n G ∧ Holds G k c2)
theorem box4_arr (a b c d : Value) : ∀ i, i < #[a, b, c, d].size → #[a, b, c, d][i]? = some (box4 a b c d i) := by
  intro i hi
  match i, hi with
  | 0, _ => rfl
  | 1, _ => rfl
  | 2, _ => rfl
  | 3, _ => rfl
theorem LInv.start (w : World) (n : Nat) (kind : Int) (s1 s2 s3 z : Value) (t : Nat) (c1 c2 : List Value) :
    LInv w ((((w.alloc (.cells #[.int .i64 0, .slice none 0 0, .slice none 0 0, .slice none 0 0] 49)).alloc (.cells (madeCells #[.bool false] n) 4)).alloc (.cells #[.int .i64 kind, s1, s2, s3] 49)).alloc (.cells (madeCells #[z] n) t)) n 0 kind s1 s2 s3 t c1 c2 := by
  refine ⟨by repeat (first | exact Below.refl _ _ | refine Below.alloc ?_ (by simp <;> omega) _), ?_, ⟨fun _ => .bool false, ?_, Holds.zero _ _⟩, ?_, ⟨fun _ => z, ?_, Holds.zero _ _⟩⟩
  · exact ((((World.rowIs_alloc w _ 49 _ (box4_arr _ _ _ _))).alloc _).alloc _).alloc _
  · have h := ((World.rowIs_made (w.alloc (.cells #[.int .i64 0, .slice none 0 0, .slice none 0 0, .slice none 0 0] 49)) (.bool false) n 4).alloc (.cells #[.int .i64 kind, s1, s2, s3] 49)).alloc (.cells (madeCells #[z] n) t)
    simpa using h
  · have h := (World.rowIs_alloc ((w.alloc (.cells #[.int .i64 0, .slice none 0 0, .slice none 0 0, .slice none 0 0] 49)).alloc (.cells (madeCells #[.bool false] n) 4)) _ 49 _ (box4_arr (.int .i64 kind) s1 s2 s3)).alloc (.cells (madeCells #[z] n) t)
    simpa using h
  · have h := World.rowIs_made (((w.alloc (.cells #[.int .i64 0, .slice none 0 0, .slice none 0 0, .slice none 0 0] 49)).alloc (.cells (madeCells #[.bool false] n) 4)).alloc (.cells #[.int .i64 kind, s1, s2, s3] 49)) z n t
    simpa using h
theorem LInv.step {w0 w : World} {n k : Nat} {kind : Int} {s1 s2 s3 : Value} {t : Nat} {c1 c2 : List Value} {v1 v2 : Value} (h : LInv w0 w n k kind s1 s2 s3 t c1 c2) (h1 : c1[k]? = some v1) (h2 : c2[k]? = some v2) (o : Obj) :
    LInv w0 (((w.setCell ⟨w0.heap.size + 1, k, none⟩ v1).setCell ⟨w0.heap.size + 1 + 1 + 1, k, none⟩ v2).alloc o) n (k + 1) kind s1 s2 s3 t c1 c2 := by
  obtain ⟨hb, hr, ⟨F, hF, hF'⟩, hx, ⟨G, hG, hG'⟩⟩ := h
  have hz := hG.lt
  refine ⟨((hb.setCell (by simp <;> omega) _).setCell (by simp <;> omega) _).alloc (by simp; omega) _, ?_, ⟨_, ?_, hF'.step h1⟩, ?_, ⟨_, ?_, hG'.step h2⟩⟩
  · exact ((hr.setOther (by simp) _).setOther (by simp; omega) _).alloc _
  · exact ((hF.set k v1).setOther (by simp) _).alloc _
  · exact ((hx.setOther (by simp) _).setOther (by simp) _).alloc _
  · exact ((hG.setOther (by simp <;> omega) _).set k v2).alloc _

theorem LisAt.set {w : World} {g o : Nat} {cs : List Value} (h : LisAt w (some ⟨g, o, none⟩) cs) (a : Addr) (ha : g ≠ a.block) (v : Value) : LisAt (w.setCell a v) (some ⟨g, o, none⟩) cs := by
  rcases h with h | ⟨b, off, e, h⟩
  · exact .inl h
  · cases e
    exact .inr ⟨g, o, rfl, fun i x hx => (World.cell?_of_block (w := w) (Go.Deep.blk_setCell_other _ _ _ _ ha)).trans (h i x hx)⟩
theorem LisAt.set4 {w : World} {g o B : Nat} {cs : List Value} (h : LisAt w (some ⟨g, o, none⟩) cs) (hB : g ≠ B) (v0 v1 v2 v3 : Value) : LisAt ((((w.setCell ⟨B, 0, none⟩ v0).setCell ⟨B, 1, none⟩ v1).setCell ⟨B, 2, none⟩ v2).setCell ⟨B, 3, none⟩ v3) (some ⟨g, o, none⟩) cs :=
  (((h.set _ hB _).set _ hB _).set _ hB _).set _ hB _
theorem below_set4 {w0 w : World} (h : Below w0.heap.size w0 w) {B : Nat} (hB : w0.heap.size ≤ B) (v0 v1 v2 v3 : Value) : Below w0.heap.size w0 ((((w.setCell ⟨B, 0, none⟩ v0).setCell ⟨B, 1, none⟩ v1).setCell ⟨B, 2, none⟩ v2).setCell ⟨B, 3, none⟩ v3) :=
  (((h.setCell hB _).setCell hB _).setCell hB _).setCell hB _

theorem nlOf_at {xs : List Val} {k : Nat} {x : Val} (h : xs[k]? = some x) : ((nlOf xs).map Value.bool)[k]? = some (.bool (x.k == 0)) := by simp [nlOf, h]

set_option maxHeartbeats 2000000 in
theorem laid_int (a : Option Addr) (c : Nat) (xs : List Val) (w : World) (hl : xs.length * 32 ≤ 140737488355328) (ha : RowAt w a xs) :
    Calls Tryz.prog 54 #[.int .i64 1, .slice a xs.length c] w fun e w' => ∃ p, e = .returned (vecV (laidV 1 xs) p) ∧ VecAt w' (laidV 1 xs) p ∧ Fresh w.heap.size p ∧ Below w.heap.size w w' := by
  obtain ⟨i4, hi4, z40, z41, z42⟩ := info_parts Tryz.info4
  obtain ⟨i2, hi2, z20, z21, z22⟩ := info_parts Tryz.info2
  generalize hX : laidV 1 xs = X
  have HX := hide hX
  clear hX
  have HA := hide ha
  clear ha
  go_enter Tryz.func54, Tryz.ntmps54
  go_wp2_with (first
    | (at_make; refine wpList_make_row _ rfl (.tmp 10) (.tmp 10) 45 rfl 4 i4 (.bool false) Tryz.underlying45 hi4 z40 z41 rfl .i64 .i64 xs.length rfl rfl (by rw [z42]; omega) (by omega) ?_)
    | (at_make; refine wpList_make_row _ rfl (.tmp 16) (.tmp 16) 46 rfl 2 i2 (.int .i64 0) Tryz.underlying46 hi2 z20 z21 rfl .i64 .i64 xs.length rfl rfl (by rw [z22]; omega) (by omega) ?_)
    | fail)
  go_loopw [25] (fun i wr => ∃ k : Nat, k ≤ xs.length ∧ i = .int .i64 k ∧ LInv w wr xs.length k 1 (.slice (some ⟨w.heap.size + 1, 0, none⟩) xs.length xs.length) (.slice (some ⟨w.heap.size + 1 + 1 + 1, 0, none⟩) xs.length xs.length) noS 2 ((nlOf xs).map Value.bool) ((xs.map (·.n)).map (Value.int .i64))) (fun i _ => xs.length - (intOf i).toNat)
  case atStart => exact ⟨0, Nat.zero_le _, rfl, LInv.start _ _ _ _ _ _ _ _ _ _⟩
  case round =>
    obtain ⟨k, hk, rfl, hI⟩ := hrel
    have HI := hide hI
    obtain ⟨hb, hr, ⟨F, hF, hF'⟩, hx, ⟨G, hG, hG'⟩⟩ := hI
    have ha' := (unhide HA).later hb
    have hz := hG.lt
    by_cases h1 : k < xs.length
    · obtain ⟨x, hx'⟩ : ∃ x, xs[k]? = some x := ⟨_, List.getElem?_eq_getElem h1⟩
      rcases ha' with e | ⟨ba, oa, rfl, hca⟩
      · subst e; simp at h1
      obtain ⟨c0, c1, c2⟩ := hca k x hx'
      have HS := hide (nlOf_at hx')
      have HT : Hid (((xs.map (·.n)).map (Value.int .i64))[k]? = some (.int .i64 x.n)) := by show _ = _; simp [hx']
      have i1 : (k : Int) < (xs.length : Int) := by omega
      have b0 : wr.cell? ⟨w.heap.size + 1 + 1, 0, none⟩ = some (.int .i64 1) := hx.cell (by omega)
      have b1 : wr.cell? ⟨w.heap.size + 1 + 1, 1, none⟩ = some (.slice (some ⟨w.heap.size + 1, 0, none⟩) xs.length xs.length) := hx.cell (by omega)
      have b2 : wr.cell? ⟨w.heap.size + 1 + 1, 2, none⟩ = some (.slice (some ⟨w.heap.size + 1 + 1 + 1, 0, none⟩) xs.length xs.length) := hx.cell (by omega)
      have f1 : wr.frozen? ⟨w.heap.size + 1, k, none⟩ = false := hF.frozen k
      have f2 : wr.frozen? ⟨w.heap.size + 1 + 1 + 1, k, none⟩ = false := hG.frozen k
      have n1 : w.heap.size + 1 < wr.heap.size := by omega
      have n2 : w.heap.size + 1 + 1 < wr.heap.size := by omega
      have g1 := hF.cell h1
      have g2 := hG.cell h1
      clear hca hx' hF hF' hG hG' hr hx hb
      go_wp2
      go_roundw
      case rel => exact ⟨k + 1, by omega, by go_num, (unhide HI).step (unhide HS) (unhide HT) _⟩
      case measure => simp [intOf]; omega
    · have e : k = xs.length := by omega
      have i1 : ¬ (k : Int) < (xs.length : Int) := by omega
      have b0 : wr.cell? ⟨w.heap.size + 1 + 1, 0, none⟩ = some (.int .i64 1) := hx.cell (by omega)
      have b1 : wr.cell? ⟨w.heap.size + 1 + 1, 1, none⟩ = some (.slice (some ⟨w.heap.size + 1, 0, none⟩) xs.length xs.length) := hx.cell (by omega)
      have b2 : wr.cell? ⟨w.heap.size + 1 + 1, 2, none⟩ = some (.slice (some ⟨w.heap.size + 1 + 1 + 1, 0, none⟩) xs.length xs.length) := hx.cell (by omega)
      have b3 : wr.cell? ⟨w.heap.size + 1 + 1, 3, none⟩ = some (.slice none 0 0) := hx.cell (by omega)
      have r0 : wr.cell? ⟨w.heap.size, 0, none⟩ = some (.int .i64 0) := hr.cell (by omega)
      have r1 : wr.cell? ⟨w.heap.size, 1, none⟩ = some (.slice none 0 0) := hr.cell (by omega)
      have r2 : wr.cell? ⟨w.heap.size, 2, none⟩ = some (.slice none 0 0) := hr.cell (by omega)
      have r3 : wr.cell? ⟨w.heap.size, 3, none⟩ = some (.slice none 0 0) := hr.cell (by omega)
      have f0 : wr.frozen? ⟨w.heap.size, 0, none⟩ = false := hr.frozen _
      have f1 : wr.frozen? ⟨w.heap.size, 1, none⟩ = false := hr.frozen _
      have f2 : wr.frozen? ⟨w.heap.size, 2, none⟩ = false := hr.frozen _
      have f3 : wr.frozen? ⟨w.heap.size, 3, none⟩ = false := hr.frozen _
      have HE : Hid (LisAt wr (some ⟨w.heap.size + 1, 0, none⟩) ((nlOf xs).map Value.bool) ∧ LisAt wr (some ⟨w.heap.size + 1 + 1 + 1, 0, none⟩) ((xs.map (·.n)).map (Value.int .i64))) := by
        rw [e] at hF' hG'
        exact ⟨lis_of_row hF (by simp [nlOf]) hF', lis_of_row hG (by simp) hG'⟩
      have HB := hide hb
      clear hF hF' hG hG' hr hx hb ha' e
      go_wp2
      refine bodyPost_ret (v := .agg #[.int .i64 1, .slice (some ⟨w.heap.size + 1, 0, none⟩) xs.length xs.length, .slice (some ⟨w.heap.size + 1 + 1 + 1, 0, none⟩) xs.length xs.length, .slice none 0 0]) (by simp [results, Tryz.results54, go_sem, *]) rfl ?_
      have hX := unhide HX
      subst hX
      refine ⟨⟨some ⟨w.heap.size + 1, 0, none⟩, xs.length, some ⟨w.heap.size + 1 + 1 + 1, 0, none⟩, xs.length, none, 0⟩, ?_, ⟨?_, ?_, ?_⟩, ⟨by simp; try omega, by simp; try omega, by simp; try omega⟩, below_set4 (unhide HB) (Nat.le_refl _) _ _ _ _⟩
      · rw [vecV_open]; simp [laidV, nlOf]
      · exact (unhide HE).1.set4 (by omega) _ _ _ _
      · exact (unhide HE).2.set4 (by omega) _ _ _ _
      · exact .inl rfl
set_option maxHeartbeats 2000000 in
theorem laid_text (a : Option Addr) (c : Nat) (kind : Int) (h0 : (kind == 1) = false) (xs : List Val) (w : World) (hl : xs.length * 32 ≤ 140737488355328) (ha : RowAt w a xs) :
    Calls Tryz.prog 54 #[.int .i64 kind, .slice a xs.length c] w fun e w' => ∃ p, e = .returned (vecV (laidV kind xs) p) ∧ VecAt w' (laidV kind xs) p ∧ Fresh w.heap.size p ∧ Below w.heap.size w w' := by
  obtain ⟨i4, hi4, z40, z41, z42⟩ := info_parts Tryz.info4
  obtain ⟨i2, hi2, z20, z21, z22⟩ := info_parts Tryz.info9
  generalize hX : laidV kind xs = X
  have HX := hide hX
  clear hX
  have HA := hide ha
  clear ha
  go_enter Tryz.func54, Tryz.ntmps54
  go_wp2_with (first
    | (at_make; refine wpList_make_row _ rfl (.tmp 10) (.tmp 10) 45 rfl 4 i4 (.bool false) Tryz.underlying45 hi4 z40 z41 rfl .i64 .i64 xs.length rfl rfl (by rw [z42]; omega) (by omega) ?_)
    | (at_make; refine wpList_make_row _ rfl (.tmp 20) (.tmp 20) 47 rfl 9 i2 (.string ⟨#[]⟩) Tryz.underlying47 hi2 z20 z21 rfl .i64 .i64 xs.length rfl rfl (by rw [z22]; omega) (by omega) ?_)
    | fail)
  go_loopw [25] (fun i wr => ∃ k : Nat, k ≤ xs.length ∧ i = .int .i64 k ∧ LInv w wr xs.length k kind (.slice (some ⟨w.heap.size + 1, 0, none⟩) xs.length xs.length) noS (.slice (some ⟨w.heap.size + 1 + 1 + 1, 0, none⟩) xs.length xs.length) 9 ((nlOf xs).map Value.bool) ((xs.map (·.s)).map Value.string)) (fun i _ => xs.length - (intOf i).toNat)
  case atStart => exact ⟨0, Nat.zero_le _, rfl, LInv.start _ _ _ _ _ _ _ _ _ _⟩
  case round =>
    obtain ⟨k, hk, rfl, hI⟩ := hrel
    have HI := hide hI
    obtain ⟨hb, hr, ⟨F, hF, hF'⟩, hx, ⟨G, hG, hG'⟩⟩ := hI
    have ha' := (unhide HA).later hb
    have hz := hG.lt
    by_cases h1 : k < xs.length
    · obtain ⟨x, hx'⟩ : ∃ x, xs[k]? = some x := ⟨_, List.getElem?_eq_getElem h1⟩
      rcases ha' with e | ⟨ba, oa, rfl, hca⟩
      · subst e; simp at h1
      obtain ⟨c0, c1, c2⟩ := hca k x hx'
      have HS := hide (nlOf_at hx')
      have HT : Hid (((xs.map (·.s)).map Value.string)[k]? = some (.string x.s)) := by show _ = _; simp [hx']
      have i1 : (k : Int) < (xs.length : Int) := by omega
      have b0 : wr.cell? ⟨w.heap.size + 1 + 1, 0, none⟩ = some (.int .i64 kind) := hx.cell (by omega)
      have b1 : wr.cell? ⟨w.heap.size + 1 + 1, 1, none⟩ = some (.slice (some ⟨w.heap.size + 1, 0, none⟩) xs.length xs.length) := hx.cell (by omega)
      have b2 : wr.cell? ⟨w.heap.size + 1 + 1, 3, none⟩ = some (.slice (some ⟨w.heap.size + 1 + 1 + 1, 0, none⟩) xs.length xs.length) := hx.cell (by omega)
      have f1 : wr.frozen? ⟨w.heap.size + 1, k, none⟩ = false := hF.frozen k
      have f2 : wr.frozen? ⟨w.heap.size + 1 + 1 + 1, k, none⟩ = false := hG.frozen k
      have n1 : w.heap.size + 1 < wr.heap.size := by omega
      have n2 : w.heap.size + 1 + 1 < wr.heap.size := by omega
      have g1 := hF.cell h1
      have g2 := hG.cell h1
      clear hca hx' hF hF' hG hG' hr hx hb
      go_wp2
      go_roundw
      case rel => exact ⟨k + 1, by omega, by go_num, (unhide HI).step (unhide HS) (unhide HT) _⟩
      case measure => simp [intOf]; omega
    · have e : k = xs.length := by omega
      have i1 : ¬ (k : Int) < (xs.length : Int) := by omega
      have b0 : wr.cell? ⟨w.heap.size + 1 + 1, 0, none⟩ = some (.int .i64 kind) := hx.cell (by omega)
      have b1 : wr.cell? ⟨w.heap.size + 1 + 1, 1, none⟩ = some (.slice (some ⟨w.heap.size + 1, 0, none⟩) xs.length xs.length) := hx.cell (by omega)
      have b2 : wr.cell? ⟨w.heap.size + 1 + 1, 3, none⟩ = some (.slice (some ⟨w.heap.size + 1 + 1 + 1, 0, none⟩) xs.length xs.length) := hx.cell (by omega)
      have b3 : wr.cell? ⟨w.heap.size + 1 + 1, 2, none⟩ = some (.slice none 0 0) := hx.cell (by omega)
      have r0 : wr.cell? ⟨w.heap.size, 0, none⟩ = some (.int .i64 0) := hr.cell (by omega)
      have r1 : wr.cell? ⟨w.heap.size, 1, none⟩ = some (.slice none 0 0) := hr.cell (by omega)
      have r2 : wr.cell? ⟨w.heap.size, 2, none⟩ = some (.slice none 0 0) := hr.cell (by omega)
      have r3 : wr.cell? ⟨w.heap.size, 3, none⟩ = some (.slice none 0 0) := hr.cell (by omega)
      have f0 : wr.frozen? ⟨w.heap.size, 0, none⟩ = false := hr.frozen _
      have f1 : wr.frozen? ⟨w.heap.size, 1, none⟩ = false := hr.frozen _
      have f2 : wr.frozen? ⟨w.heap.size, 2, none⟩ = false := hr.frozen _
      have f3 : wr.frozen? ⟨w.heap.size, 3, none⟩ = false := hr.frozen _
      have HE : Hid (LisAt wr (some ⟨w.heap.size + 1, 0, none⟩) ((nlOf xs).map Value.bool) ∧ LisAt wr (some ⟨w.heap.size + 1 + 1 + 1, 0, none⟩) ((xs.map (·.s)).map Value.string)) := by
        rw [e] at hF' hG'
        exact ⟨lis_of_row hF (by simp [nlOf]) hF', lis_of_row hG (by simp) hG'⟩
      have HB := hide hb
      clear hF hF' hG hG' hr hx hb ha' e
      go_wp2
      refine bodyPost_ret (v := .agg #[.int .i64 kind, .slice (some ⟨w.heap.size + 1, 0, none⟩) xs.length xs.length, .slice none 0 0, .slice (some ⟨w.heap.size + 1 + 1 + 1, 0, none⟩) xs.length xs.length]) (by simp [results, Tryz.results54, go_sem, *]) rfl ?_
      have h0' : ¬ kind = 1 := by simpa using h0
      have hX := unhide HX
      subst hX
      refine ⟨⟨some ⟨w.heap.size + 1, 0, none⟩, xs.length, none, 0, some ⟨w.heap.size + 1 + 1 + 1, 0, none⟩, xs.length⟩, ?_, ⟨?_, ?_, ?_⟩, ⟨by simp; try omega, by simp; try omega, by simp; try omega⟩, below_set4 (unhide HB) (Nat.le_refl _) _ _ _ _⟩
      · rw [vecV_open]; simp [laidV, nlOf, h0']
      · exact (unhide HE).1.set4 (by omega) _ _ _ _
      · left; simp [laidV, h0']
      · have e : (laidV kind xs).ss = xs.map (·.s) := by simp [laidV, h0']
        rw [e]
        exact (unhide HE).2.set4 (by omega) _ _ _ _
theorem laid_any (a : Option Addr) (c : Nat) (kind : Int) (xs : List Val) (w : World) (hl : xs.length * 32 ≤ 140737488355328) (ha : RowAt w a xs) :
    Calls Tryz.prog 54 #[.int .i64 kind, .slice a xs.length c] w fun e w' => ∃ p, e = .returned (vecV (laidV kind xs) p) ∧ VecAt w' (laidV kind xs) p ∧ Fresh w.heap.size p ∧ Below w.heap.size w w' := by
  by_cases h : (kind == 1) = true
  · obtain rfl := beq_iff_eq.1 h
    exact laid_int a c xs w hl ha
  · exact laid_text a c kind (by simpa using h) xs w hl ha
end Go.Proofs.YthbfomcmjjnikaaGreat

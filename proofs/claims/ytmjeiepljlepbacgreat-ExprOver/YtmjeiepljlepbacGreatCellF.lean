import Derived.Test.YtmjeiepljlepbacGreatCellC
import Derived.Maps.AppendAt
import Derived.Deep.AppendLies
set_option linter.unusedSimpArgs false
set_option linter.unusedVariables false
namespace Go.Proofs.YtmjeiepljlepbacGreat
open Go.RowKit Go.Sort

theorem Tryz.info5 : (Tryz.prog.info? 5).map (fun i => (i.zero, i.size, i.bytes)) = some (some (.int .u8 0), 1, 1) := by kernel_rfl

/-- The slice of bytes v, a row of the call's own, holds the numbers zs. -/
def OwnB (w : World) (base : Nat) (v : Value) (zs : List Int) : Prop := w.ownsRow base 5 1 v zs.length (zs.map (Value.int .u8))
/-- w' is w with new blocks, and with writes to v's own row alone; v' lies there, or in a new block. -/
def Grew (w w' : World) (v v' : Value) : Prop := w.grownBy w' v.ownBlock ∧ (v'.ownBlock = v.ownBlock ∨ ∃ g, v'.ownBlock = some g ∧ w.heap.size ≤ g)

theorem Grew.refl (w : World) (v : Value) : Grew w w v v := ⟨⟨rfl, rfl, rfl, Nat.le_refl _, fun _ _ _ => rfl⟩, .inl rfl⟩
theorem Grew.trans {a b c : World} {u v x : Value} (h : Grew a b u v) (k : Grew b c v x) : Grew a c u x := by
  obtain ⟨h1, h2⟩ := h
  obtain ⟨k1, k2⟩ := k
  refine ⟨⟨k1.os.trans h1.os, k1.tape.trans h1.tape, k1.output.trans h1.output, Nat.le_trans h1.size k1.size, fun i hi hne => ?_⟩, ?_⟩
  · rw [k1.block i (Nat.lt_of_lt_of_le hi h1.size) ?_, h1.block i hi hne]
    rcases h2 with h2 | ⟨g, h2, hg⟩
    · rw [h2]; exact hne
    · rw [h2]; intro e; cases e; omega
  · rcases k2 with k2 | ⟨g, k2, hg⟩
    · rcases h2 with h2 | ⟨g, h2, hg⟩
      · exact .inl (k2.trans h2)
      · exact .inr ⟨g, k2.trans h2, hg⟩
    · exact .inr ⟨g, k2, Nat.le_trans h1.size hg⟩
/-- An alloc, then an append. -/
theorem Grew.app {a b c : World} {u v x : Value} {o : Obj} (h : Grew a b u v) (hg : (b.alloc o).grownBy c v.ownBlock) (hat : x.ownBlock = v.ownBlock ∨ x.ownBlock = some (b.alloc o).heap.size) : Grew a c u x := by
  refine h.trans ⟨⟨hg.os, hg.tape, hg.output, ?_, fun i hi hne => ?_⟩, ?_⟩
  · have := hg.size; simp at this; omega
  · rw [hg.block i (by simp; omega) hne, Below.heap_alloc b o i hi]
  · rcases hat with h | h
    · exact .inl h
    · exact .inr ⟨_, h, by simp⟩
/-- Two allocs, then an append. -/
theorem Grew.app2 {b c : World} {v x : Value} {o o2 : Obj} (hg : ((b.alloc o).alloc o2).grownBy c v.ownBlock) (hat : x.ownBlock = v.ownBlock ∨ x.ownBlock = some ((b.alloc o).alloc o2).heap.size) : Grew b c v x := by
  refine ⟨⟨hg.os, hg.tape, hg.output, ?_, fun i hi hne => ?_⟩, ?_⟩
  · have := hg.size; simp at this; omega
  · rw [hg.block i (by simp; omega) hne, Below.heap_alloc _ o2 i (by simp; omega), Below.heap_alloc b o i hi]
  · rcases hat with h | h
    · exact .inl h
    · exact .inr ⟨_, h, by simp; omega⟩
theorem Grew.below {a b : World} {u v : Value} (h : Grew a b u v) {B : Nat} (hB : B ≤ a.heap.size) (hu : ∀ g, u.ownBlock = some g → B ≤ g) : Below B a b :=
  ⟨h.1.os, h.1.tape, h.1.output, h.1.size, fun k hk => h.1.block k (by omega) (fun e => by have := hu k e.symm; omega)⟩

theorem ownB_app {w : World} {base : Nat} {v : Value} {ys news : List Int} {m : Nat} (hm : news.length = m) (h : w.ownsRow base 5 1 v (ys.length + m) (ys.map (Value.int .u8) ++ news.map (Value.int .u8))) : OwnB w base v (ys ++ news) := by
  unfold OwnB
  rw [List.length_append, List.map_append, hm]
  exact h

/-- The k-th byte of a word, the highest first. -/
def be (U : Int) (k : Nat) : Int := U / 2 ^ (56 - 8 * k) % 256
def be8 (U : Int) (k : Nat) : List Int := (List.range k).map (be U)
theorem be8_succ (U : Int) (k : Nat) : be8 U (k + 1) = be8 U k ++ [be U k] := by simp [be8, List.range_succ]
theorem be8_len (U : Int) (k : Nat) : (be8 U k).length = k := by simp [be8]
def keyU (n : Int) : Int := bits BinOp.xor IntKind.u64 (IntKind.u64.wrap n) 9223372036854775808

def encT : List UInt8 → List Int
  | [] => []
  | c :: l => (c.toNat : Int) :: (if c.toNat = 0 then 255 :: encT l else encT l)
theorem encT_append (l m : List UInt8) : encT (l ++ m) = encT l ++ encT m := by
  induction l with
  | nil => rfl
  | cons c l ih => simp only [List.cons_append, encT, ih]; split <;> simp
theorem encT_len (l : List UInt8) : (encT l).length ≤ 2 * l.length := by
  induction l with
  | nil => simp [encT]
  | cons c l ih => simp only [encT]; split <;> simp <;> omega
theorem take_snoc (s : ByteArray) (k : Nat) (h : k < s.size) : s.data.toList.take (k + 1) = s.data.toList.take k ++ [s[k]] := by
  rw [List.take_succ_eq_append_getElem (by simpa using h)]; rfl
theorem enc_zero (s : ByteArray) (k : Nat) (h : k < s.size) (h0 : (s[k].toNat : Int) = 0) : encT (s.data.toList.take (k + 1)) = encT (s.data.toList.take k) ++ [(s[k].toNat : Int), 255] := by
  have : s[k].toNat = 0 := by omega
  rw [take_snoc s k h, encT_append]; simp [encT, this]
theorem enc_other (s : ByteArray) (k : Nat) (h : k < s.size) (h0 : ¬ (s[k].toNat : Int) = 0) : encT (s.data.toList.take (k + 1)) = encT (s.data.toList.take k) ++ [(s[k].toNat : Int)] := by
  have : ¬ s[k].toNat = 0 := by omega
  rw [take_snoc s k h, encT_append]; simp [encT, this]

theorem ownB_lt {w : World} {base : Nat} {v : Value} {zs : List Int} (h : OwnB w base v zs) {g : Nat} (hg : v.ownBlock = some g) : base ≤ g ∧ g < w.heap.size := World.ownsRow.lt h g hg
/-- A box, a block, a draw, then an append: the box is as it was. -/
theorem box_kept {w w1 : World} {base : Nat} {v : Value} {zs : List Int} {o c : Obj} (h : OwnB w base v zs) (hg : (((w.alloc o).alloc c).drew).grownBy w1 v.ownBlock) (j : Nat) :
    w1.cell? ⟨w.heap.size, j, none⟩ = (w.alloc o).cell? ⟨w.heap.size, j, none⟩ := by
  refine World.cell?_of_block (a := ⟨w.heap.size, j, none⟩) ?_
  rw [hg.block w.heap.size (by simp; omega) (fun e => by have := (ownB_lt h e.symm).2; omega)]
  exact Below.heap_alloc (w.alloc o) c w.heap.size (by simp)
theorem grew_lies {w w1 : World} {v : Value} {o c : Obj} {g n cap : Nat} (hg : (((w.alloc o).alloc c).drew).grownBy w1 v.ownBlock) (hat : v.ownBlock = some g ∨ g = w.heap.size + 1 + 1) : Grew w w1 v (.slice (some ⟨g, 0, none⟩) n cap) := by
  refine Grew.app2 (o := o) (o2 := c) ⟨hg.os, hg.tape, hg.output, hg.size, hg.block⟩ ?_
  rcases hat with h | h
  · exact .inl h.symm
  · exact .inr (by rw [h]; simp [Value.ownBlock])
theorem lies_ne {v : Value} {g n cap m : Nat} (hlt : ∀ g, v.ownBlock = some g → g < m) (hat : v.ownBlock = some g ∨ g = m + 1 + 1) : (Value.slice (some ⟨g, 0, none⟩) n cap).ownBlock ≠ some m := by
  rcases hat with h | h
  · have := hlt _ h
    simp [Value.ownBlock]; omega
  · simp [Value.ownBlock]; omega
theorem grew_kept {w1 w2 : World} {u v : Value} (h : Grew w1 w2 u v) {b : Nat} (hb : b < w1.heap.size) (hne : u.ownBlock ≠ some b) (j : Nat) : w2.cell? ⟨b, j, none⟩ = w1.cell? ⟨b, j, none⟩ :=
  World.cell?_of_block (a := ⟨b, j, none⟩) (h.1.block b hb (fun e => hne e.symm))

/-- A value's bytes in a key. -/
def encV (x : Val) : List Int :=
  if x.k == 1 then 2 :: be8 (keyU x.n) 8 else if x.k == 2 then 3 :: (encT x.s.data.toList ++ [0, 1]) else [1]
def wide (x : Val) : Nat := 16 + 2 * x.s.size

end Go.Proofs.YtmjeiepljlepbacGreat

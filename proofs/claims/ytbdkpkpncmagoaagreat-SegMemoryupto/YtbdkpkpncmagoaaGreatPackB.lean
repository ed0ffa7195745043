import Derived.Test.YtbdkpkpncmagoaaGreatPackA
set_option linter.unusedSimpArgs false
set_option linter.unusedVariables false
namespace Go.Proofs.YtbdkpkpncmagoaaGreat
open Go.RowKit Go.Sort

theorem Tryz.info5 : (Tryz.prog.info? 5).map (fun i => (i.zero, i.size, i.bytes)) = some (some (.int .u8 0), 1, 1) := by kernel_rfl

/-- The slice of bytes v, a row of the call's own, holds the numbers zs. -/
def OwnB (w : World) (base : Nat) (v : Value) (zs : List Int) : Prop := w.ownsRow base 5 1 v zs.length (zs.map (Value.int .u8))
/-- w' is w with new blocks, and with writes to v's own row alone; v' lies there, or in a new block. -/
def Grew (w w' : World) (v v' : Value) : Prop := w.grownBy w' v.ownBlock ∧ (v'.ownBlock = v.ownBlock ∨ ∃ g, v'.ownBlock = some g ∧ w.heap.size ≤ g)

theorem Grew.refl (w : World) (v : Value) : Grew w w v v := ⟨⟨rfl, rfl, rfl, Nat.le_refl _, fun _ _ _ => rfl⟩, .inl rfl⟩
theorem Grew.trans {a b c : World} {u v x : Value} (h : Grew a b u v) (k : Grew b c v x) : Grew a c u x := by
  obtain ⟨h1, h2⟩ := h
  obtain ⟨k1, k2⟩ := k
  refine ⟨⟨k1.os.trans h1.os, k1.tape.trans h1.tape, k1.output.trans h1.output, Nat.le_trans h1.size k1.size, fun i hi hne => ?_⟩, ?_⟩
  · rw [k1.block i (Nat.lt_of_lt_of_le hi h1.size) ?_, h1.block i hi hne]
    rcases h2 with h2 | ⟨g, h2, hg⟩
    · rw [h2]; exact hne
    · rw [h2]; intro e; cases e; omega
  · rcases k2 with k2 | ⟨g, k2, hg⟩
    · rcases h2 with h2 | ⟨g, h2, hg⟩
      · exact .inl (k2.trans h2)
      · exact .inr ⟨g, k2.trans h2, hg⟩
    · exact .inr ⟨g, k2, Nat.le_trans h1.size hg⟩
/-- An alloc, then an append. -/
theorem Grew.app {a b c : World} {u v x : Value} {o : Obj} (h : Grew a b u v) (hg : (b.alloc o).grownBy c v.ownBlock) (hat : x.ownBlock = v.ownBlock ∨ x.ownBlock = some (b.alloc o).heap.size) : Grew a c u x := by
  refine h.trans ⟨⟨hg.os, hg.tape, hg.output, ?_, fun i hi hne => ?_⟩, ?_⟩
  · have := hg.size; simp at this; omega
  · rw [hg.block i (by simp; omega) hne, Below.heap_alloc b o i hi]
  · rcases hat with h | h
    · exact .inl h
    · exact .inr ⟨_, h, by simp⟩
/-- Two allocs, then an append. -/
theorem Grew.app2 {b c : World} {v x : Value} {o o2 : Obj} (hg : ((b.alloc o).alloc o2).grownBy c v.ownBlock) (hat : x.ownBlock = v.ownBlock ∨ x.ownBlock = some ((b.alloc o).alloc o2).heap.size) : Grew b c v x := by
  refine ⟨⟨hg.os, hg.tape, hg.output, ?_, fun i hi hne => ?_⟩, ?_⟩
  · have := hg.size; simp at this; omega
  · rw [hg.block i (by simp; omega) hne, Below.heap_alloc _ o2 i (by simp; omega), Below.heap_alloc b o i hi]
  · rcases hat with h | h
    · exact .inl h
    · exact .inr ⟨_, h, by simp; omega⟩
theorem Grew.below {a b : World} {u v : Value} (h : Grew a b u v) {B : Nat} (hB : B ≤ a.heap.size) (hu : ∀ g, u.ownBlock = some g → B ≤ g) : Below B a b :=
  ⟨h.1.os, h.1.tape, h.1.output, h.1.size, fun k hk => h.1.block k (by omega) (fun e => by have := hu k e.symm; omega)⟩

theorem ownB_app {w : World} {base : Nat} {v : Value} {ys news : List Int} {m : Nat} (hm : news.length = m) (h : w.ownsRow base 5 1 v (ys.length + m) (ys.map (Value.int .u8) ++ news.map (Value.int .u8))) : OwnB w base v (ys ++ news) := by
  unfold OwnB
  rw [List.length_append, List.map_append, hm]
  exact h

theorem ownB_lt {w : World} {base : Nat} {v : Value} {zs : List Int} (h : OwnB w base v zs) {g : Nat} (hg : v.ownBlock = some g) : base ≤ g ∧ g < w.heap.size := World.ownsRow.lt h g hg
theorem grew_kept {w1 w2 : World} {u v : Value} (h : Grew w1 w2 u v) {b : Nat} (hb : b < w1.heap.size) (hne : u.ownBlock ≠ some b) (j : Nat) : w2.cell? ⟨b, j, none⟩ = w1.cell? ⟨b, j, none⟩ :=
  World.cell?_of_block (a := ⟨b, j, none⟩) (h.1.block b hb (fun e => hne e.symm))

/-- The bytes as a text. -/
def toB (zs : List Int) : ByteArray := zs.foldl (fun r n => r.push (UInt8.ofNat n.toNat)) ByteArray.empty

theorem convert_own {w : World} {base : Nat} {v : Value} {zs : List Int} (h : OwnB w base v zs) : (convert 84 9 v).run Tryz.prog w = .ok (.string (toB zs)) w := by
  rcases h.2 with ⟨rfl, h0⟩ | ⟨g, cap, cur, rfl, hb, hg, _⟩
  · have : zs = [] := List.eq_nil_of_length_eq_zero h0
    subst this
    rw [run_convert_bytes_string w 84 9 5 none 0 0 Tryz.underlying84 Tryz.underlying5 Tryz.underlying9]
    rfl
  · rw [run_convert_bytes_string w 84 9 5 _ _ _ Tryz.underlying84 Tryz.underlying5 Tryz.underlying9]
    refine run_bytesToString w _ _ _ zs ?_
    have := run_loadCells_list (P := Tryz.prog) (w := w) ⟨g, 0, none⟩ (zs.map (Value.int .u8)) (World.ownsRow.cells h rfl)
    simpa using this

def ofI (n : Int) : UInt8 := UInt8.ofNat n.toNat
theorem toB_fold (zs : List Int) : ∀ acc : ByteArray, zs.foldl (fun r n => r.push (UInt8.ofNat n.toNat)) acc = ⟨acc.data ++ (zs.map ofI).toArray⟩ := by
  induction zs with
  | nil => intro acc; simp
  | cons z zs ih =>
    intro acc
    rw [List.foldl_cons, ih]
    congr 1
    simp [ByteArray.push, ofI]
theorem toB_eq (zs : List Int) : toB zs = ⟨(zs.map ofI).toArray⟩ := by
  unfold toB
  rw [toB_fold]
  show ByteArray.mk (#[] ++ _) = _
  rw [Array.empty_append]
theorem toB_append (a b : List Int) : toB (a ++ b) = toB a ++ toB b := by
  rw [toB_eq, toB_eq, toB_eq]
  simp only [List.map_append]
  apply ByteArray.ext
  simp
theorem toB_size (a : List Int) : (toB a).size = a.length := by
  rw [toB_eq]; simp [ByteArray.size]
theorem toB_cons (z : Int) (a : List Int) : toB (z :: a) = toB [z] ++ toB a := toB_append [z] a

/-- The k-th of n bytes of a number, the high one first. -/
def beN (U : Int) (n k : Nat) : Int := U / 2 ^ (8 * (n - 1 - k)) % 256
def beL (U : Int) (n k : Nat) : List Int := (List.range k).map (beN U n)
theorem beL_succ (U : Int) (n k : Nat) : beL U n (k + 1) = beL U n k ++ [beN U n k] := by simp [beL, List.range_succ]
theorem beL_len (U : Int) (n k : Nat) : (beL U n k).length = k := by simp [beL]

set_option maxHeartbeats 1000000 in
theorem appnum_any (base : Nat) (zs : List Int) (U : Int) (n : Nat) (v : Value) (w : World) (hn : n ≤ 8) (hown : OwnB w base v zs) (hlen : zs.length ≤ 140737488300000) (hbase : base ≤ w.heap.size) :
    Calls Tryz.prog 77 #[v, .int .u64 U, .int .i64 n] w fun e w' => ∃ v', e = .returned v' ∧ OwnB w' base v' (zs ++ beL U n n) ∧ Grew w w' v v' := by
  obtain ⟨i0, hi, hz0, hz1, hz2⟩ := info_parts Tryz.info5
  go_enter Tryz.func77, Tryz.ntmps77
  go_wp2_with fail
  go_loopw [0, 9] (fun key s wr => ∃ k : Nat, k ≤ n ∧ s = .int .i64 (k : Int) ∧ OwnB wr base key (zs ++ beL U n k) ∧ Grew w wr v key) (fun _ s _ => n - (intOf s).toNat)
  case atStart => exact ⟨0, Nat.zero_le _, rfl, by simpa [beL] using hown, Grew.refl _ _⟩
  case round =>
    obtain ⟨k, hk, rfl, ho, hg⟩ := hrel
    by_cases h8 : k < n
    · have h9 : (k : Int) < (n : Int) := by omega
      have hl : (zs ++ beL U n k).length = zs.length + k := by rw [List.length_append, beL_len]
      have HL := hide hl
      have es : ((n : Int) - 1 - (k : Int)) = ((n - 1 - k : Nat) : Int) := by omega
      have h10 : (0 : Int) ≤ 8 * ((n : Int) - 1 - (k : Int)) := by omega
      have h11 : (8 * ((n : Int) - 1 - (k : Int))).toNat = 8 * (n - 1 - k) := by omega
      clear hl
      go_wp2_with (at_builtin; refine wpList_append_own_at _ rfl (.tmp 12) (.tmp 21) 84 rfl base 5 i0 (.int .u8 0) 1 1 Tryz.underlying84 hi hz0 hz1 hz2 rfl (by decide) _ _ _ rfl (World.ownsRow.alloc ho _) ⟨wr.heap.size, 0, none⟩ 1 1 [.int .u8 (beN U n k)] rfl rfl (cell_one_new _ _ _) (by intro u hu; simp at hu; subst hu; rfl) (by rw [unhide HL]; unfold maxLen; omega) (by rw [unhide HL]; omega) (by have := hg.1.size; simp; omega) ?_; intro v' w1 hown' hgrow _ hat)
      have hg2 := Grew.app hg hgrow hat
      have ho2 := ownB_app (news := [beN U n k]) rfl hown'
      rw [List.append_assoc, ← beL_succ] at ho2
      refine ⟨⟨k + 1, by omega, by go_num, ho2, hg2⟩, ?_⟩
      simp only [intOf]
      omega
    · have hk8 : k = n := by omega
      have h9 : ¬ (k : Int) < (n : Int) := by omega
      subst hk8
      go_wp2
      go_ret
      exact ⟨_, rfl, ho, hg⟩
end Go.Proofs.YtbdkpkpncmagoaaGreat

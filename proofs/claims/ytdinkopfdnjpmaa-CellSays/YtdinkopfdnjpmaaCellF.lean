import Derived.Test.YtdinkopfdnjpmaaCellE
import Derived.Maps.AppendAt
import Derived.Deep.AppendLies
set_option linter.unusedSimpArgs false
set_option linter.unusedVariables false
namespace Go.Proofs.Ytdinkopfdnjpmaa
open Go.RowKit Go.Sort

theorem Try.info5 : (Try.prog.info? 5).map (fun i => (i.zero, i.size, i.bytes)) = some (some (.int .u8 0), 1, 1) := by kernel_rfl

/-- The slice of bytes v, a row of the call's own, holds the numbers zs. -/
def OwnB (w : World) (base : Nat) (v : Value) (zs : List Int) : Prop := w.ownsRow base 5 1 v zs.length (zs.map (Value.int .u8))
/-- w' is w with new blocks, and with writes to v's own row alone; v' lies there, or in a new block. -/
def Grew (w w' : World) (v v' : Value) : Prop := w.grownBy w' v.ownBlock ∧ (v'.ownBlock = v.ownBlock ∨ ∃ g, v'.ownBlock = some g ∧ w.heap.size ≤ g)

theorem Grew.refl (w : World) (v : Value) : Grew w w v v := ⟨⟨rfl, rfl, rfl, Nat.le_refl _, fun _ _ _ => rfl⟩, .inl rfl⟩
theorem Grew.trans {a b c : World} {u v x : Value} (h : Grew a b u v) (k : Grew b c v x) : Grew a c u x := by
  obtain ⟨h1, h2⟩ := h
  obtain ⟨k1, k2⟩ := k
  refine ⟨⟨k1.os.trans h1.os, k1.tape.trans h1.tape, k1.output.trans h1.output, Nat.le_trans h1.size k1.size, fun i hi hne => ?_⟩, ?_⟩
  · rw [k1.block i (Nat.lt_of_lt_of_le hi h1.size) ?_, h1.block i hi hne]
    rcases h2 with h2 | ⟨g, h2, hg⟩
    · rw [h2]; exact hne
    · rw [h2]; intro e; cases e; omega
  · rcases k2 with k2 | ⟨g, k2, hg⟩
    · rcases h2 with h2 | ⟨g, h2, hg⟩
      · exact .inl (k2.trans h2)
      · exact .inr ⟨g, k2.trans h2, hg⟩
    · exact .inr ⟨g, k2, Nat.le_trans h1.size hg⟩
/-- An alloc, then an append. -/
theorem Grew.app {a b c : World} {u v x : Value} {o : Obj} (h : Grew a b u v) (hg : (b.alloc o).grownBy c v.ownBlock) (hat : x.ownBlock = v.ownBlock ∨ x.ownBlock = some (b.alloc o).heap.size) : Grew a c u x := by
  refine h.trans ⟨⟨hg.os, hg.tape, hg.output, ?_, fun i hi hne => ?_⟩, ?_⟩
  · have := hg.size; simp at this; omega
  · rw [hg.block i (by simp; omega) hne, Below.heap_alloc b o i hi]
  · rcases hat with h | h
    · exact .inl h
    · exact .inr ⟨_, h, by simp⟩
/-- Two allocs, then an append. -/
theorem Grew.app2 {b c : World} {v x : Value} {o o2 : Obj} (hg : ((b.alloc o).alloc o2).grownBy c v.ownBlock) (hat : x.ownBlock = v.ownBlock ∨ x.ownBlock = some ((b.alloc o).alloc o2).heap.size) : Grew b c v x := by
  refine ⟨⟨hg.os, hg.tape, hg.output, ?_, fun i hi hne => ?_⟩, ?_⟩
  · have := hg.size; simp at this; omega
  · rw [hg.block i (by simp; omega) hne, Below.heap_alloc _ o2 i (by simp; omega), Below.heap_alloc b o i hi]
  · rcases hat with h | h
    · exact .inl h
    · exact .inr ⟨_, h, by simp; omega⟩
theorem Grew.below {a b : World} {u v : Value} (h : Grew a b u v) {B : Nat} (hB : B ≤ a.heap.size) (hu : ∀ g, u.ownBlock = some g → B ≤ g) : Below B a b :=
  ⟨h.1.os, h.1.tape, h.1.output, h.1.size, fun k hk => h.1.block k (by omega) (fun e => by have := hu k e.symm; omega)⟩

theorem ownB_app {w : World} {base : Nat} {v : Value} {ys news : List Int} {m : Nat} (hm : news.length = m) (h : w.ownsRow base 5 1 v (ys.length + m) (ys.map (Value.int .u8) ++ news.map (Value.int .u8))) : OwnB w base v (ys ++ news) := by
  unfold OwnB
  rw [List.length_append, List.map_append, hm]
  exact h

/-- The k-th byte of a word, the highest first. -/
def be (U : Int) (k : Nat) : Int := U / 2 ^ (56 - 8 * k) % 256
def be8 (U : Int) (k : Nat) : List Int := (List.range k).map (be U)
theorem be8_succ (U : Int) (k : Nat) : be8 U (k + 1) = be8 U k ++ [be U k] := by simp [be8, List.range_succ]
theorem be8_len (U : Int) (k : Nat) : (be8 U k).length = k := by simp [be8]
def keyU (n : Int) : Int := bits BinOp.xor IntKind.u64 (IntKind.u64.wrap n) 9223372036854775808

set_option maxHeartbeats 1000000 in
theorem appnum_any (base : Nat) (zs : List Int) (n : Int) (v : Value) (w : World) (hown : OwnB w base v zs) (hlen : zs.length ≤ 140737488300000) (hbase : base ≤ w.heap.size) :
    Calls Try.prog 75 #[v, .int .i64 n] w fun e w' => ∃ v', e = .returned v' ∧ OwnB w' base v' (zs ++ be8 (keyU n) 8) ∧ Grew w w' v v' := by
  obtain ⟨i0, hi, hz0, hz1, hz2⟩ := info_parts Try.info5
  have HU := hide (rfl : keyU n = bits BinOp.xor IntKind.u64 (IntKind.u64.wrap n) 9223372036854775808)
  go_enter Try.func75, Try.ntmps75
  go_wp2_with fail
  go_loopw [0, 6] (fun key s wr => ∃ k : Nat, k ≤ 8 ∧ s = .int .i64 (56 - 8 * (k : Int)) ∧ OwnB wr base key (zs ++ be8 (keyU n) k) ∧ Grew w wr v key) (fun _ s _ => (intOf s + 8).toNat)
  case atStart => exact ⟨0, Nat.zero_le _, rfl, by simpa [be8] using hown, Grew.refl _ _⟩
  case round =>
    obtain ⟨k, hk, rfl, ho, hg⟩ := hrel
    by_cases h8 : k < 8
    · have h9 : (0 : Int) ≤ 56 - 8 * (k : Int) := by omega
      have hl : (zs ++ be8 (keyU n) k).length = zs.length + k := by rw [List.length_append, be8_len]
      have HL := hide hl
      clear hl
      go_wp2_with (at_builtin; refine wpList_append_own_at _ rfl (.tmp 14) (.tmp 19) 65 rfl base 5 i0 (.int .u8 0) 1 1 Try.underlying65 hi hz0 hz1 hz2 rfl (by decide) _ _ _ rfl (World.ownsRow.alloc ho _) ⟨wr.heap.size, 0, none⟩ 1 1 [.int .u8 (be (keyU n) k)] rfl rfl (cell_one_new _ _ _) (by intro u hu; simp at hu; subst hu; rfl) (by rw [unhide HL]; unfold maxLen; omega) (by rw [unhide HL]; omega) (by have := hg.1.size; simp; omega) ?_; intro v' w1 hown' hgrow _ hat)
      have hg2 := Grew.app hg hgrow hat
      have ho2 := ownB_app (news := [be (keyU n) k]) rfl hown'
      rw [List.append_assoc, ← be8_succ] at ho2
      refine ⟨⟨k + 1, by omega, by go_num, ho2, hg2⟩, ?_⟩
      simp only [intOf]
      omega
    · have hk8 : k = 8 := by omega
      have h9 : ¬ (0 : Int) ≤ 56 - 8 * (k : Int) := by omega
      subst hk8
      go_wp2
      go_ret
      exact ⟨_, rfl, ho, hg⟩

/-- A text's bytes in a key, without its end. -/
def encT : List UInt8 → List Int
  | [] => []
  | c :: l => (c.toNat : Int) :: (if c.toNat = 0 then 255 :: encT l else encT l)
theorem encT_append (l m : List UInt8) : encT (l ++ m) = encT l ++ encT m := by
  induction l with
  | nil => rfl
  | cons c l ih => simp only [List.cons_append, encT, ih]; split <;> simp
theorem encT_len (l : List UInt8) : (encT l).length ≤ 2 * l.length := by
  induction l with
  | nil => simp [encT]
  | cons c l ih => simp only [encT]; split <;> simp <;> omega
theorem take_snoc (s : ByteArray) (k : Nat) (h : k < s.size) : s.data.toList.take (k + 1) = s.data.toList.take k ++ [s[k]] := by
  rw [List.take_succ_eq_append_getElem (by simpa using h)]; rfl
theorem enc_zero (s : ByteArray) (k : Nat) (h : k < s.size) (h0 : (s[k].toNat : Int) = 0) : encT (s.data.toList.take (k + 1)) = encT (s.data.toList.take k) ++ [(s[k].toNat : Int), 255] := by
  have : s[k].toNat = 0 := by omega
  rw [take_snoc s k h, encT_append]; simp [encT, this]
theorem enc_other (s : ByteArray) (k : Nat) (h : k < s.size) (h0 : ¬ (s[k].toNat : Int) = 0) : encT (s.data.toList.take (k + 1)) = encT (s.data.toList.take k) ++ [(s[k].toNat : Int)] := by
  have : ¬ s[k].toNat = 0 := by omega
  rw [take_snoc s k h, encT_append]; simp [encT, this]

set_option maxHeartbeats 1000000 in
theorem apptext_any (base : Nat) (zs : List Int) (s : ByteArray) (v : Value) (w : World) (hown : OwnB w base v zs) (hlen : zs.length + 2 * s.size ≤ 140737488300000) (hbase : base ≤ w.heap.size) :
    Calls Try.prog 76 #[v, .string s] w fun e w' => ∃ v', e = .returned v' ∧ OwnB w' base v' (zs ++ (encT s.data.toList ++ [0, 1])) ∧ Grew w w' v v' := by
  obtain ⟨i0, hi, hz0, hz1, hz2⟩ := info_parts Try.info5
  have hs : (s.size : Int) ≤ 140737488300000 := by omega
  go_enter Try.func76, Try.ntmps76
  go_wp2_with fail
  go_loopw [0, 8] (fun key i wr => ∃ k : Nat, k ≤ s.size ∧ i = .int .i64 k ∧ OwnB wr base key (zs ++ encT (s.data.toList.take k)) ∧ Grew w wr v key) (fun _ i _ => s.size - (intOf i).toNat)
  case atStart => exact ⟨0, Nat.zero_le _, rfl, by simpa [encT] using hown, Grew.refl _ _⟩
  case round =>
    obtain ⟨k, hk, rfl, ho, hg⟩ := hrel
    have hl : (zs ++ encT (s.data.toList.take k)).length ≤ zs.length + 2 * k := by
      rw [List.length_append]
      have h1 := encT_len (s.data.toList.take k)
      have h2 : (s.data.toList.take k).length ≤ k := List.length_take_le _ _
      omega
    have HL := hide hl
    clear hl
    by_cases h8 : k < s.size
    · have h9 : (k : Int) < (s.size : Int) := by omega
      by_cases h0 : (s[k].toNat : Int) = 0
      · have h0' : ((s[k].toNat : Int) == 0) = true := by simpa using h0
        have HE := hide (enc_zero s k h8 h0)
        clear h0
        go_wp2_with (first
          | (at_builtin; refine wpList_append_own_at _ rfl (.tmp 11) (.tmp 15) 65 rfl base 5 i0 (.int .u8 0) 1 1 Try.underlying65 hi hz0 hz1 hz2 rfl (by decide) _ _ _ rfl (World.ownsRow.alloc ho _) ⟨wr.heap.size, 0, none⟩ 1 1 [.int .u8 (s[k].toNat : Int)] rfl rfl (cell_one_new _ _ _) (by intro u hu; simp at hu; subst hu; rfl) (by have := unhide HL; unfold maxLen; omega) (by have := unhide HL; omega) (by have := hg.1.size; simp; omega) ?_; intro v1 w1 hown1 hgrow1 _ hat1; have hg1 := Grew.app hg hgrow1 hat1; have ho1 := ownB_app (news := [(s[k].toNat : Int)]) rfl hown1; clear hown1 hgrow1 hat1)
          | (at_builtin; refine wpList_append_own_at _ rfl (.tmp 21) (.tmp 22) 65 rfl base 5 i0 (.int .u8 0) 1 1 Try.underlying65 hi hz0 hz1 hz2 rfl (by decide) _ _ _ rfl (World.ownsRow.alloc ho1 _) ⟨w1.heap.size, 0, none⟩ 1 1 [.int .u8 255] rfl rfl (cell_one_new _ _ _) (by intro u hu; simp at hu; subst hu; rfl) (by have := unhide HL; rw [List.length_append]; unfold maxLen; simp only [List.length_cons, List.length_nil]; omega) (by have := unhide HL; rw [List.length_append]; simp only [List.length_cons, List.length_nil]; omega) (by have := hg1.1.size; simp; omega) ?_; intro v2 w2 hown2 hgrow2 _ hat2; have hg2 := Grew.app hg1 hgrow2 hat2; have ho2 := ownB_app (news := [255]) rfl hown2; clear hown2 hgrow2 hat2))
        have ho3 : OwnB w2 base v2 (zs ++ encT (s.data.toList.take (k + 1))) := by rw [unhide HE]; simpa using ho2
        go_roundw
        case rel => exact ⟨k + 1, by omega, by go_num, ho3, hg2⟩
        case measure => simp [intOf]; omega
      · have h0' : ((s[k].toNat : Int) == 0) = false := by simpa using h0
        have HE := hide (enc_other s k h8 h0)
        clear h0
        go_wp2_with (at_builtin; refine wpList_append_own_at _ rfl (.tmp 11) (.tmp 15) 65 rfl base 5 i0 (.int .u8 0) 1 1 Try.underlying65 hi hz0 hz1 hz2 rfl (by decide) _ _ _ rfl (World.ownsRow.alloc ho _) ⟨wr.heap.size, 0, none⟩ 1 1 [.int .u8 (s[k].toNat : Int)] rfl rfl (cell_one_new _ _ _) (by intro u hu; simp at hu; subst hu; rfl) (by have := unhide HL; unfold maxLen; omega) (by have := unhide HL; omega) (by have := hg.1.size; simp; omega) ?_; intro v1 w1 hown1 hgrow1 _ hat1; have hg1 := Grew.app hg hgrow1 hat1; have ho1 := ownB_app (news := [(s[k].toNat : Int)]) rfl hown1; clear hown1 hgrow1 hat1)
        have ho3 : OwnB w1 base v1 (zs ++ encT (s.data.toList.take (k + 1))) := by rw [unhide HE]; simpa using ho1
        go_roundw
        case rel => exact ⟨k + 1, by omega, by go_num, ho3, hg1⟩
        case measure => simp [intOf]; omega
    · have hk8 : k = s.size := by omega
      have h9 : ¬ (k : Int) < (s.size : Int) := by omega
      have HE : Hid (s.data.toList.take k = s.data.toList) := List.take_of_length_le (by simp; omega)
      clear hk8
      go_wp2_with (at_builtin; refine wpList_append_own_at _ rfl (.tmp 25) (.tmp 26) 65 rfl base 5 i0 (.int .u8 0) 1 1 Try.underlying65 hi hz0 hz1 hz2 rfl (by decide) _ _ _ rfl (World.ownsRow.alloc ho _) ⟨wr.heap.size, 0, none⟩ 2 2 [.int .u8 0, .int .u8 1] rfl rfl ?_ (by intro u hu; simp at hu; rcases hu with rfl | rfl <;> rfl) (by have := unhide HL; unfold maxLen; omega) (by have := unhide HL; omega) (by have := hg.1.size; simp; omega) ?_; rotate_right; intro v1 w1 hown1 hgrow1 _ hat1; have hg1 := Grew.app hg hgrow1 hat1; have ho1 := ownB_app (news := [0, 1]) rfl hown1; clear hown1 hgrow1 hat1)
      · go_ret
        exact ⟨_, rfl, by rw [unhide HE, List.append_assoc] at ho1; exact ho1, hg1⟩
      all_goals
        intro j u hj
        match j, hj with
        | 0, hj => simp at hj; subst hj; simp [Addr.add, go_sem]
        | 1, hj => simp at hj; subst hj; simp [Addr.add, go_sem]
        | j + 2, hj => simp at hj


theorem ownB_lt {w : World} {base : Nat} {v : Value} {zs : List Int} (h : OwnB w base v zs) {g : Nat} (hg : v.ownBlock = some g) : base ≤ g ∧ g < w.heap.size := World.ownsRow.lt h g hg
/-- A box, a block, a draw, then an append: the box is as it was. -/
theorem box_kept {w w1 : World} {base : Nat} {v : Value} {zs : List Int} {o c : Obj} (h : OwnB w base v zs) (hg : (((w.alloc o).alloc c).drew).grownBy w1 v.ownBlock) (j : Nat) :
    w1.cell? ⟨w.heap.size, j, none⟩ = (w.alloc o).cell? ⟨w.heap.size, j, none⟩ := by
  refine World.cell?_of_block (a := ⟨w.heap.size, j, none⟩) ?_
  rw [hg.block w.heap.size (by simp; omega) (fun e => by have := (ownB_lt h e.symm).2; omega)]
  exact Below.heap_alloc (w.alloc o) c w.heap.size (by simp)
theorem grew_lies {w w1 : World} {v : Value} {o c : Obj} {g n cap : Nat} (hg : (((w.alloc o).alloc c).drew).grownBy w1 v.ownBlock) (hat : v.ownBlock = some g ∨ g = w.heap.size + 1 + 1) : Grew w w1 v (.slice (some ⟨g, 0, none⟩) n cap) := by
  refine Grew.app2 (o := o) (o2 := c) ⟨hg.os, hg.tape, hg.output, hg.size, hg.block⟩ ?_
  rcases hat with h | h
  · exact .inl h.symm
  · exact .inr (by rw [h]; simp [Value.ownBlock])
theorem lies_ne {v : Value} {g n cap m : Nat} (hlt : ∀ g, v.ownBlock = some g → g < m) (hat : v.ownBlock = some g ∨ g = m + 1 + 1) : (Value.slice (some ⟨g, 0, none⟩) n cap).ownBlock ≠ some m := by
  rcases hat with h | h
  · have := hlt _ h
    simp [Value.ownBlock]; omega
  · simp [Value.ownBlock]; omega
theorem grew_kept {w1 w2 : World} {u v : Value} (h : Grew w1 w2 u v) {b : Nat} (hb : b < w1.heap.size) (hne : u.ownBlock ≠ some b) (j : Nat) : w2.cell? ⟨b, j, none⟩ = w1.cell? ⟨b, j, none⟩ :=
  World.cell?_of_block (a := ⟨b, j, none⟩) (h.1.block b hb (fun e => hne e.symm))

/-- A value's bytes in a key. -/
def encV (x : Val) : List Int :=
  if x.k == 1 then 2 :: be8 (keyU x.n) 8 else if x.k == 2 then 3 :: (encT x.s.data.toList ++ [0, 1]) else [1]
def wide (x : Val) : Nat := 16 + 2 * x.s.size

set_option maxHeartbeats 1000000 in
set_option maxRecDepth 100000 in
theorem appval_any (base : Nat) (zs : List Int) (x : Val) (v : Value) (w : World) (hown : OwnB w base v zs) (hlen : zs.length + wide x ≤ 140737488300000) (hbase : base ≤ w.heap.size) :
    Calls Try.prog 61 #[v, x.v] w fun e w' => ∃ v', e = .returned v' ∧ OwnB w' base v' (zs ++ encV x) ∧ Grew w w' v v' := by
  obtain ⟨i0, hi, hz0, hz1, hz2⟩ := info_parts Try.info5
  unfold wide at hlen
  rw [x.open_]
  rcases Bool.eq_false_or_eq_true (x.k == 1) with k1 | k1
  · have HV : Hid (encV x = 2 :: be8 (keyU x.n) 8) := by show _ = _; simp [encV, k1]
    have hlt : ∀ g, v.ownBlock = some g → g < w.heap.size := fun g h => (ownB_lt hown h).2
    have HLT := hide hlt
    clear hlt
    go_enter Try.func61, Try.ntmps61
    go_wp2_with fail
    go_region_held3 (fun w' => w'.cell? ⟨w.heap.size, 1, none⟩ = some (.int .i64 x.n)) (first | assumption | go_keep)
      (first
        | ((refine step_append_lies _ (by rfl) (.tmp 9) (.tmp 10) 65 (by rfl) base 5 i0 (.int .u8 0) 1 1 Try.underlying65 hi hz0 hz1 hz2 (by rfl) (by decide) v zs.length (zs.map (Value.int .u8)) (by rfl) (World.ownsRow.drew (World.ownsRow.alloc (World.ownsRow.alloc hown _) _)) ⟨w.heap.size + 1, 0, none⟩ 1 1 [.int .u8 2] (by rfl) (by rfl) (by intro j u hj; match j, hj with | 0, hj => (simp at hj; subst hj; simp [Addr.add, go_sem])) (by intro u hu; simp at hu; subst hu; rfl) (by decide) (by unfold maxLen; omega) (by omega) (by simp; omega) (w.heap.size + 1 + 1) (by simp) ?_; intro g cap w1 hown1 hgrow1 hat1 hlt1; have hS1 : w1.cell? ⟨w.heap.size, 1, none⟩ = some (.int .i64 x.n) := (box_kept hown hgrow1 1).trans (by simp [go_sem]); have hg1 := grew_lies (n := zs.length + 1) (cap := cap) hgrow1 hat1; have ho1 := ownB_app (news := [2]) rfl hown1))
        | (go_at_call 75; refine (appnum_any base (zs ++ [2]) x.n _ _ ho1 ?_ ?_).mono ?_; (rw [List.length_append]; simp only [List.length_cons, List.length_nil]; omega); (have := hg1.1.size; omega); rintro e w2 ⟨v2, rfl, ho2, hg2⟩; have hS2 : w2.cell? ⟨w.heap.size, 1, none⟩ = some (.int .i64 x.n) := (grew_kept hg2 (World.block_lt_of_cell? _ _ hS1) (lies_ne (unhide HLT) hat1) 1).trans hS1))
    go_wp2
    go_ret
    exact ⟨_, rfl, by rw [unhide HV]; simpa using ho2, hg1.trans hg2⟩
  · rcases Bool.eq_false_or_eq_true (x.k == 2) with k2 | k2
    · have HV : Hid (encV x = 3 :: (encT x.s.data.toList ++ [0, 1])) := by show _ = _; simp [encV, k1, k2]
      have hlt : ∀ g, v.ownBlock = some g → g < w.heap.size := fun g h => (ownB_lt hown h).2
      have HLT := hide hlt
      clear hlt
      go_enter Try.func61, Try.ntmps61
      go_wp2_with fail
      go_region_held3 (fun w' => w'.cell? ⟨w.heap.size, 2, none⟩ = some (.string x.s)) (first | assumption | go_keep)
        (first
          | ((refine step_append_lies _ (by rfl) (.tmp 17) (.tmp 18) 65 (by rfl) base 5 i0 (.int .u8 0) 1 1 Try.underlying65 hi hz0 hz1 hz2 (by rfl) (by decide) v zs.length (zs.map (Value.int .u8)) (by rfl) (World.ownsRow.drew (World.ownsRow.alloc (World.ownsRow.alloc hown _) _)) ⟨w.heap.size + 1, 0, none⟩ 1 1 [.int .u8 3] (by rfl) (by rfl) (by intro j u hj; match j, hj with | 0, hj => (simp at hj; subst hj; simp [Addr.add, go_sem])) (by intro u hu; simp at hu; subst hu; rfl) (by decide) (by unfold maxLen; omega) (by omega) (by simp; omega) (w.heap.size + 1 + 1) (by simp) ?_; intro g cap w1 hown1 hgrow1 hat1 hlt1; have hS1 : w1.cell? ⟨w.heap.size, 2, none⟩ = some (.string x.s) := (box_kept hown hgrow1 2).trans (by simp [go_sem]); have hg1 := grew_lies (n := zs.length + 1) (cap := cap) hgrow1 hat1; have ho1 := ownB_app (news := [3]) rfl hown1))
          | (go_at_call 76; refine (apptext_any base (zs ++ [3]) x.s _ _ ho1 ?_ ?_).mono ?_; (rw [List.length_append]; simp only [List.length_cons, List.length_nil]; omega); (have := hg1.1.size; omega); rintro e w2 ⟨v2, rfl, ho2, hg2⟩; have hS2 : w2.cell? ⟨w.heap.size, 2, none⟩ = some (.string x.s) := (grew_kept hg2 (World.block_lt_of_cell? _ _ hS1) (lies_ne (unhide HLT) hat1) 2).trans hS1))
      go_wp2
      go_ret
      exact ⟨_, rfl, by rw [unhide HV]; simpa using ho2, hg1.trans hg2⟩
    · have HV : Hid (encV x = [1]) := by show _ = _; simp [encV, k1, k2]
      go_enter Try.func61, Try.ntmps61
      go_wp2_with (at_builtin; refine wpList_append_own_at _ rfl (.tmp 23) (.tmp 24) 65 rfl base 5 i0 (.int .u8 0) 1 1 Try.underlying65 hi hz0 hz1 hz2 rfl (by decide) _ _ _ rfl (World.ownsRow.alloc (World.ownsRow.alloc hown _) _) ⟨w.heap.size + 1, 0, none⟩ 1 1 [.int .u8 1] rfl rfl (by intro j u hj; match j, hj with | 0, hj => (simp at hj; subst hj; simp [Addr.add, go_sem])) (by intro u hu; simp at hu; subst hu; rfl) (by unfold maxLen; omega) (by omega) (by simp; omega) ?_; intro v1 w1 hown1 hgrow1 _ hat1; have hg1 := Grew.app2 hgrow1 hat1; have ho1 := ownB_app (news := [1]) rfl hown1; clear hown1 hgrow1 hat1)
      go_ret
      exact ⟨_, rfl, by rw [unhide HV]; exact ho1, hg1⟩

end Go.Proofs.Ytdinkopfdnjpmaa

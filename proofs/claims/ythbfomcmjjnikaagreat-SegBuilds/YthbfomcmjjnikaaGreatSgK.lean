import Derived.Test.YthbfomcmjjnikaaGreatPackA
set_option linter.unusedSimpArgs false
set_option linter.unusedVariables false
namespace Go.Proofs.YthbfomcmjjnikaaGreat
open Go.RowKit Go.Sort

/-- The k-th byte of a word, the highest first. -/
def be (U : Int) (k : Nat) : Int := U / 2 ^ (56 - 8 * k) % 256
def be8 (U : Int) (k : Nat) : List Int := (List.range k).map (be U)
theorem be8_succ (U : Int) (k : Nat) : be8 U (k + 1) = be8 U k ++ [be U k] := by simp [be8, List.range_succ]
theorem be8_len (U : Int) (k : Nat) : (be8 U k).length = k := by simp [be8]
def keyU (n : Int) : Int := bits BinOp.xor IntKind.u64 (IntKind.u64.wrap n) 9223372036854775808

set_option maxHeartbeats 1000000 in
set_option maxRecDepth 100000 in
theorem appkey_any (base : Nat) (zs : List Int) (n : Int) (v : Value) (w : World) (hown : OwnB w base v zs) (hlen : zs.length ≤ 140737488300000) (hbase : base ≤ w.heap.size) :
    Calls Tryz.prog 126 #[v, .int .i64 n] w fun e w' => ∃ v', e = .returned v' ∧ OwnB w' base v' (zs ++ be8 (keyU n) 8) ∧ Grew w w' v v' := by
  obtain ⟨i0, hi, hz0, hz1, hz2⟩ := info_parts Tryz.info5
  have HU := hide (rfl : keyU n = bits BinOp.xor IntKind.u64 (IntKind.u64.wrap n) 9223372036854775808)
  go_enter Tryz.func126, Tryz.ntmps126
  go_wp2_with fail
  go_loopw [0, 6] (fun key s wr => ∃ k : Nat, k ≤ 8 ∧ s = .int .i64 (56 - 8 * (k : Int)) ∧ OwnB wr base key (zs ++ be8 (keyU n) k) ∧ Grew w wr v key) (fun _ s _ => (intOf s + 8).toNat)
  case atStart => exact ⟨0, Nat.zero_le _, rfl, by simpa [be8] using hown, Grew.refl _ _⟩
  case round =>
    obtain ⟨k, hk, rfl, ho, hg⟩ := hrel
    by_cases h8 : k < 8
    · have h9 : (0 : Int) ≤ 56 - 8 * (k : Int) := by omega
      have hl : (zs ++ be8 (keyU n) k).length = zs.length + k := by rw [List.length_append, be8_len]
      have HL := hide hl
      clear hl
      go_wp2_with (at_builtin; refine wpList_append_own_at _ rfl (.tmp 14) (.tmp 19) 71 rfl base 5 i0 (.int .u8 0) 1 1 Tryz.underlying71 hi hz0 hz1 hz2 rfl (by decide) _ _ _ rfl (World.ownsRow.alloc ho _) ⟨wr.heap.size, 0, none⟩ 1 1 [.int .u8 (be (keyU n) k)] rfl rfl (cell_one_new _ _ _) (by intro u hu; simp at hu; subst hu; rfl) (by rw [unhide HL]; unfold maxLen; omega) (by rw [unhide HL]; omega) (by have := hg.1.size; simp; omega) ?_; intro v' w1 hown' hgrow _ hat)
      have hg2 := Grew.app hg hgrow hat
      have ho2 := ownB_app (news := [be (keyU n) k]) rfl hown'
      rw [List.append_assoc, ← be8_succ] at ho2
      refine ⟨⟨k + 1, by omega, by go_num, ho2, hg2⟩, ?_⟩
      simp only [intOf]
      omega
    · have hk8 : k = 8 := by omega
      have h9 : ¬ (0 : Int) ≤ 56 - 8 * (k : Int) := by omega
      subst hk8
      go_wp2
      go_ret
      exact ⟨_, rfl, ho, hg⟩

/-- A text's bytes in a key, without its end. -/
def encT : List UInt8 → List Int
  | [] => []
  | c :: l => (c.toNat : Int) :: (if c.toNat = 0 then 255 :: encT l else encT l)
theorem encT_append (l m : List UInt8) : encT (l ++ m) = encT l ++ encT m := by
  induction l with
  | nil => rfl
  | cons c l ih => simp only [List.cons_append, encT, ih]; split <;> simp
theorem encT_len (l : List UInt8) : (encT l).length ≤ 2 * l.length := by
  induction l with
  | nil => simp [encT]
  | cons c l ih => simp only [encT]; split <;> simp <;> omega
theorem take_snoc (s : ByteArray) (k : Nat) (h : k < s.size) : s.data.toList.take (k + 1) = s.data.toList.take k ++ [s[k]] := by
  rw [List.take_succ_eq_append_getElem (by simpa using h)]; rfl
theorem enc_zero (s : ByteArray) (k : Nat) (h : k < s.size) (h0 : (s[k].toNat : Int) = 0) : encT (s.data.toList.take (k + 1)) = encT (s.data.toList.take k) ++ [(s[k].toNat : Int), 255] := by
  have : s[k].toNat = 0 := by omega
  rw [take_snoc s k h, encT_append]; simp [encT, this]
theorem enc_other (s : ByteArray) (k : Nat) (h : k < s.size) (h0 : ¬ (s[k].toNat : Int) = 0) : encT (s.data.toList.take (k + 1)) = encT (s.data.toList.take k) ++ [(s[k].toNat : Int)] := by
  have : ¬ s[k].toNat = 0 := by omega
  rw [take_snoc s k h, encT_append]; simp [encT, this]

set_option maxHeartbeats 1000000 in
theorem apptext_any (base : Nat) (zs : List Int) (s : ByteArray) (v : Value) (w : World) (hown : OwnB w base v zs) (hlen : zs.length + 2 * s.size ≤ 140737488300000) (hbase : base ≤ w.heap.size) :
    Calls Tryz.prog 127 #[v, .string s] w fun e w' => ∃ v', e = .returned v' ∧ OwnB w' base v' (zs ++ (encT s.data.toList ++ [0, 1])) ∧ Grew w w' v v' := by
  obtain ⟨i0, hi, hz0, hz1, hz2⟩ := info_parts Tryz.info5
  have hs : (s.size : Int) ≤ 140737488300000 := by omega
  go_enter Tryz.func127, Tryz.ntmps127
  go_wp2_with fail
  go_loopw [0, 8] (fun key i wr => ∃ k : Nat, k ≤ s.size ∧ i = .int .i64 k ∧ OwnB wr base key (zs ++ encT (s.data.toList.take k)) ∧ Grew w wr v key) (fun _ i _ => s.size - (intOf i).toNat)
  case atStart => exact ⟨0, Nat.zero_le _, rfl, by simpa [encT] using hown, Grew.refl _ _⟩
  case round =>
    obtain ⟨k, hk, rfl, ho, hg⟩ := hrel
    have hl : (zs ++ encT (s.data.toList.take k)).length ≤ zs.length + 2 * k := by
      rw [List.length_append]
      have h1 := encT_len (s.data.toList.take k)
      have h2 : (s.data.toList.take k).length ≤ k := List.length_take_le _ _
      omega
    have HL := hide hl
    clear hl
    by_cases h8 : k < s.size
    · have h9 : (k : Int) < (s.size : Int) := by omega
      by_cases h0 : (s[k].toNat : Int) = 0
      · have h0' : ((s[k].toNat : Int) == 0) = true := by simpa using h0
        have HE := hide (enc_zero s k h8 h0)
        clear h0
        go_wp2_with (first
          | (at_builtin; refine wpList_append_own_at _ rfl (.tmp 11) (.tmp 15) 71 rfl base 5 i0 (.int .u8 0) 1 1 Tryz.underlying71 hi hz0 hz1 hz2 rfl (by decide) _ _ _ rfl (World.ownsRow.alloc ho _) ⟨wr.heap.size, 0, none⟩ 1 1 [.int .u8 (s[k].toNat : Int)] rfl rfl (cell_one_new _ _ _) (by intro u hu; simp at hu; subst hu; rfl) (by have := unhide HL; unfold maxLen; omega) (by have := unhide HL; omega) (by have := hg.1.size; simp; omega) ?_; intro v1 w1 hown1 hgrow1 _ hat1; have hg1 := Grew.app hg hgrow1 hat1; have ho1 := ownB_app (news := [(s[k].toNat : Int)]) rfl hown1; clear hown1 hgrow1 hat1)
          | (at_builtin; refine wpList_append_own_at _ rfl (.tmp 21) (.tmp 22) 71 rfl base 5 i0 (.int .u8 0) 1 1 Tryz.underlying71 hi hz0 hz1 hz2 rfl (by decide) _ _ _ rfl (World.ownsRow.alloc ho1 _) ⟨w1.heap.size, 0, none⟩ 1 1 [.int .u8 255] rfl rfl (cell_one_new _ _ _) (by intro u hu; simp at hu; subst hu; rfl) (by have := unhide HL; rw [List.length_append]; unfold maxLen; simp only [List.length_cons, List.length_nil]; omega) (by have := unhide HL; rw [List.length_append]; simp only [List.length_cons, List.length_nil]; omega) (by have := hg1.1.size; simp; omega) ?_; intro v2 w2 hown2 hgrow2 _ hat2; have hg2 := Grew.app hg1 hgrow2 hat2; have ho2 := ownB_app (news := [255]) rfl hown2; clear hown2 hgrow2 hat2))
        have ho3 : OwnB w2 base v2 (zs ++ encT (s.data.toList.take (k + 1))) := by rw [unhide HE]; simpa using ho2
        go_roundw
        case rel => exact ⟨k + 1, by omega, by go_num, ho3, hg2⟩
        case measure => simp [intOf]; omega
      · have h0' : ((s[k].toNat : Int) == 0) = false := by simpa using h0
        have HE := hide (enc_other s k h8 h0)
        clear h0
        go_wp2_with (at_builtin; refine wpList_append_own_at _ rfl (.tmp 11) (.tmp 15) 71 rfl base 5 i0 (.int .u8 0) 1 1 Tryz.underlying71 hi hz0 hz1 hz2 rfl (by decide) _ _ _ rfl (World.ownsRow.alloc ho _) ⟨wr.heap.size, 0, none⟩ 1 1 [.int .u8 (s[k].toNat : Int)] rfl rfl (cell_one_new _ _ _) (by intro u hu; simp at hu; subst hu; rfl) (by have := unhide HL; unfold maxLen; omega) (by have := unhide HL; omega) (by have := hg.1.size; simp; omega) ?_; intro v1 w1 hown1 hgrow1 _ hat1; have hg1 := Grew.app hg hgrow1 hat1; have ho1 := ownB_app (news := [(s[k].toNat : Int)]) rfl hown1; clear hown1 hgrow1 hat1)
        have ho3 : OwnB w1 base v1 (zs ++ encT (s.data.toList.take (k + 1))) := by rw [unhide HE]; simpa using ho1
        go_roundw
        case rel => exact ⟨k + 1, by omega, by go_num, ho3, hg1⟩
        case measure => simp [intOf]; omega
    · have hk8 : k = s.size := by omega
      have h9 : ¬ (k : Int) < (s.size : Int) := by omega
      have HE : Hid (s.data.toList.take k = s.data.toList) := List.take_of_length_le (by simp; omega)
      clear hk8
      go_wp2_with (at_builtin; refine wpList_append_own_at _ rfl (.tmp 25) (.tmp 26) 71 rfl base 5 i0 (.int .u8 0) 1 1 Tryz.underlying71 hi hz0 hz1 hz2 rfl (by decide) _ _ _ rfl (World.ownsRow.alloc ho _) ⟨wr.heap.size, 0, none⟩ 2 2 [.int .u8 0, .int .u8 1] rfl rfl ?_ (by intro u hu; simp at hu; rcases hu with rfl | rfl <;> rfl) (by have := unhide HL; unfold maxLen; omega) (by have := unhide HL; omega) (by have := hg.1.size; simp; omega) ?_; rotate_right; intro v1 w1 hown1 hgrow1 _ hat1; have hg1 := Grew.app hg hgrow1 hat1; have ho1 := ownB_app (news := [0, 1]) rfl hown1; clear hown1 hgrow1 hat1)
      · go_ret
        exact ⟨_, rfl, by rw [unhide HE, List.append_assoc] at ho1; exact ho1, hg1⟩
      all_goals
        intro j u hj
        match j, hj with
        | 0, hj => simp at hj; subst hj; simp [Addr.add, go_sem]
        | 1, hj => simp at hj; subst hj; simp [Addr.add, go_sem]
        | j + 2, hj => simp at hj


/-- A box, a block, a draw, then an append: the box is as it was. -/
theorem box_kept {w w1 : World} {base : Nat} {v : Value} {zs : List Int} {o c : Obj} (h : OwnB w base v zs) (hg : (((w.alloc o).alloc c).drew).grownBy w1 v.ownBlock) (j : Nat) :
    w1.cell? ⟨w.heap.size, j, none⟩ = (w.alloc o).cell? ⟨w.heap.size, j, none⟩ := by
  refine World.cell?_of_block (a := ⟨w.heap.size, j, none⟩) ?_
  rw [hg.block w.heap.size (by simp; omega) (fun e => by have := (ownB_lt h e.symm).2; omega)]
  exact Below.heap_alloc (w.alloc o) c w.heap.size (by simp)
theorem grew_lies {w w1 : World} {v : Value} {o c : Obj} {g n cap : Nat} (hg : (((w.alloc o).alloc c).drew).grownBy w1 v.ownBlock) (hat : v.ownBlock = some g ∨ g = w.heap.size + 1 + 1) : Grew w w1 v (.slice (some ⟨g, 0, none⟩) n cap) := by
  refine Grew.app2 (o := o) (o2 := c) ⟨hg.os, hg.tape, hg.output, hg.size, hg.block⟩ ?_
  rcases hat with h | h
  · exact .inl h.symm
  · exact .inr (by rw [h]; simp [Value.ownBlock])
theorem lies_ne {v : Value} {g n cap m : Nat} (hlt : ∀ g, v.ownBlock = some g → g < m) (hat : v.ownBlock = some g ∨ g = m + 1 + 1) : (Value.slice (some ⟨g, 0, none⟩) n cap).ownBlock ≠ some m := by
  rcases hat with h | h
  · have := hlt _ h
    simp [Value.ownBlock]; omega
  · simp [Value.ownBlock]; omega
/-- A value's bytes in a key. -/
def encV (x : Val) : List Int :=
  if x.k == 1 then 2 :: be8 (keyU x.n) 8 else if x.k == 2 then 3 :: (encT x.s.data.toList ++ [0, 1]) else [1]
def wide (x : Val) : Nat := 16 + 2 * x.s.size

set_option maxHeartbeats 1000000 in
set_option maxRecDepth 100000 in
theorem appval_any (base : Nat) (zs : List Int) (x : Val) (v : Value) (w : World) (hown : OwnB w base v zs) (hlen : zs.length + wide x ≤ 140737488300000) (hbase : base ≤ w.heap.size) :
    Calls Tryz.prog 104 #[v, x.v] w fun e w' => ∃ v', e = .returned v' ∧ OwnB w' base v' (zs ++ encV x) ∧ Grew w w' v v' := by
  obtain ⟨i0, hi, hz0, hz1, hz2⟩ := info_parts Tryz.info5
  unfold wide at hlen
  rw [x.open_]
  rcases Bool.eq_false_or_eq_true (x.k == 1) with k1 | k1
  · have HV : Hid (encV x = 2 :: be8 (keyU x.n) 8) := by show _ = _; simp [encV, k1]
    have hlt : ∀ g, v.ownBlock = some g → g < w.heap.size := fun g h => (ownB_lt hown h).2
    have HLT := hide hlt
    clear hlt
    go_enter Tryz.func104, Tryz.ntmps104
    go_wp2_with fail
    go_region_held3 (fun w' => w'.cell? ⟨w.heap.size, 1, none⟩ = some (.int .i64 x.n)) (first | assumption | go_keep)
      (first
        | ((refine step_append_lies _ (by rfl) (.tmp 9) (.tmp 10) 71 (by rfl) base 5 i0 (.int .u8 0) 1 1 Tryz.underlying71 hi hz0 hz1 hz2 (by rfl) (by decide) v zs.length (zs.map (Value.int .u8)) (by rfl) (World.ownsRow.drew (World.ownsRow.alloc (World.ownsRow.alloc hown _) _)) ⟨w.heap.size + 1, 0, none⟩ 1 1 [.int .u8 2] (by rfl) (by rfl) (by intro j u hj; match j, hj with | 0, hj => (simp at hj; subst hj; simp [Addr.add, go_sem])) (by intro u hu; simp at hu; subst hu; rfl) (by decide) (by unfold maxLen; omega) (by omega) (by simp; omega) (w.heap.size + 1 + 1) (by simp) ?_; intro g cap w1 hown1 hgrow1 hat1 hlt1; have hS1 : w1.cell? ⟨w.heap.size, 1, none⟩ = some (.int .i64 x.n) := (box_kept hown hgrow1 1).trans (by simp [go_sem]); have hg1 := grew_lies (n := zs.length + 1) (cap := cap) hgrow1 hat1; have ho1 := ownB_app (news := [2]) rfl hown1))
        | (go_at_call 126; refine (appkey_any base (zs ++ [2]) x.n _ _ ho1 ?_ ?_).mono ?_; (rw [List.length_append]; simp only [List.length_cons, List.length_nil]; omega); (have := hg1.1.size; omega); rintro e w2 ⟨v2, rfl, ho2, hg2⟩; have hS2 : w2.cell? ⟨w.heap.size, 1, none⟩ = some (.int .i64 x.n) := (grew_kept hg2 (World.block_lt_of_cell? _ _ hS1) (lies_ne (unhide HLT) hat1) 1).trans hS1))
    go_wp2
    go_ret
    exact ⟨_, rfl, by rw [unhide HV]; simpa using ho2, hg1.trans hg2⟩
  · rcases Bool.eq_false_or_eq_true (x.k == 2) with k2 | k2
    · have HV : Hid (encV x = 3 :: (encT x.s.data.toList ++ [0, 1])) := by show _ = _; simp [encV, k1, k2]
      have hlt : ∀ g, v.ownBlock = some g → g < w.heap.size := fun g h => (ownB_lt hown h).2
      have HLT := hide hlt
      clear hlt
      go_enter Tryz.func104, Tryz.ntmps104
      go_wp2_with fail
      go_region_held3 (fun w' => w'.cell? ⟨w.heap.size, 2, none⟩ = some (.string x.s)) (first | assumption | go_keep)
        (first
          | ((refine step_append_lies _ (by rfl) (.tmp 17) (.tmp 18) 71 (by rfl) base 5 i0 (.int .u8 0) 1 1 Tryz.underlying71 hi hz0 hz1 hz2 (by rfl) (by decide) v zs.length (zs.map (Value.int .u8)) (by rfl) (World.ownsRow.drew (World.ownsRow.alloc (World.ownsRow.alloc hown _) _)) ⟨w.heap.size + 1, 0, none⟩ 1 1 [.int .u8 3] (by rfl) (by rfl) (by intro j u hj; match j, hj with | 0, hj => (simp at hj; subst hj; simp [Addr.add, go_sem])) (by intro u hu; simp at hu; subst hu; rfl) (by decide) (by unfold maxLen; omega) (by omega) (by simp; omega) (w.heap.size + 1 + 1) (by simp) ?_; intro g cap w1 hown1 hgrow1 hat1 hlt1; have hS1 : w1.cell? ⟨w.heap.size, 2, none⟩ = some (.string x.s) := (box_kept hown hgrow1 2).trans (by simp [go_sem]); have hg1 := grew_lies (n := zs.length + 1) (cap := cap) hgrow1 hat1; have ho1 := ownB_app (news := [3]) rfl hown1))
          | (go_at_call 127; refine (apptext_any base (zs ++ [3]) x.s _ _ ho1 ?_ ?_).mono ?_; (rw [List.length_append]; simp only [List.length_cons, List.length_nil]; omega); (have := hg1.1.size; omega); rintro e w2 ⟨v2, rfl, ho2, hg2⟩; have hS2 : w2.cell? ⟨w.heap.size, 2, none⟩ = some (.string x.s) := (grew_kept hg2 (World.block_lt_of_cell? _ _ hS1) (lies_ne (unhide HLT) hat1) 2).trans hS1))
      go_wp2
      go_ret
      exact ⟨_, rfl, by rw [unhide HV]; simpa using ho2, hg1.trans hg2⟩
    · have HV : Hid (encV x = [1]) := by show _ = _; simp [encV, k1, k2]
      go_enter Tryz.func104, Tryz.ntmps104
      go_wp2_with (at_builtin; refine wpList_append_own_at _ rfl (.tmp 23) (.tmp 24) 71 rfl base 5 i0 (.int .u8 0) 1 1 Tryz.underlying71 hi hz0 hz1 hz2 rfl (by decide) _ _ _ rfl (World.ownsRow.alloc (World.ownsRow.alloc hown _) _) ⟨w.heap.size + 1, 0, none⟩ 1 1 [.int .u8 1] rfl rfl (by intro j u hj; match j, hj with | 0, hj => (simp at hj; subst hj; simp [Addr.add, go_sem])) (by intro u hu; simp at hu; subst hu; rfl) (by unfold maxLen; omega) (by omega) (by simp; omega) ?_; intro v1 w1 hown1 hgrow1 _ hat1; have hg1 := Grew.app2 hgrow1 hat1; have ho1 := ownB_app (news := [1]) rfl hown1; clear hown1 hgrow1 hat1)
      go_ret
      exact ⟨_, rfl, by rw [unhide HV]; exact ho1, hg1⟩


def keyL (xs : List Val) : List Int := xs.flatMap encV
theorem keyL_take {xs : List Val} {k : Nat} {x : Val} (h : xs[k]? = some x) : keyL (xs.take (k + 1)) = keyL (xs.take k) ++ encV x := by
  obtain ⟨h1, rfl⟩ := List.getElem?_eq_some_iff.1 h
  unfold keyL
  rw [List.take_succ_eq_append_getElem h1, List.flatMap_append, List.flatMap_cons, List.flatMap_nil, List.append_nil]
def wides (xs : List Val) : Nat := (xs.map wide).sum
theorem encV_len (x : Val) : (encV x).length ≤ wide x := by
  unfold encV wide
  split
  · simp [be8_len]; omega
  · split
    · have := encT_len x.s.data.toList
      simp at this
      simp
      omega
    · simp; omega
theorem keyL_len (xs : List Val) : (keyL xs).length ≤ wides xs := by
  induction xs with
  | nil => simp [keyL, wides]
  | cons x xs ih =>
    have := encV_len x
    simp only [keyL, wides, List.flatMap_cons, List.length_append, List.map_cons, List.sum_cons] at *
    omega
theorem wides_take {xs : List Val} {k : Nat} {x : Val} (h : xs[k]? = some x) : wides (xs.take k) + wide x ≤ wides xs := by
  obtain ⟨h1, rfl⟩ := List.getElem?_eq_some_iff.1 h
  have e : xs = xs.take k ++ xs[k] :: xs.drop (k + 1) := by rw [← List.drop_eq_getElem_cons h1, List.take_append_drop]
  have e2 : wides xs = wides (xs.take k ++ xs[k] :: xs.drop (k + 1)) := congrArg wides e
  rw [e2]
  simp only [wides, List.map_append, List.map_cons, List.sum_append, List.sum_cons]
  omega

set_option maxHeartbeats 2000000 in
set_option maxRecDepth 100000 in
theorem key_any (aa : Option Addr) (ca : Nat) (xs : List Val) (w : World) (hla : xs.length ≤ maxLen) (hw : wides xs ≤ 140737488300000) (ha : RowAt w aa xs) :
    Calls Tryz.prog 79 #[.slice aa xs.length ca] w fun e w' => e = .returned (.string (toB (keyL xs))) ∧ Below w.heap.size w w' := by
  unfold maxLen at hla
  go_enter Tryz.func79, Tryz.ntmps79
  go_wp2_with fail
  go_loopw [3, 8] (fun key i wr => ∃ k : Nat, k ≤ xs.length ∧ i = .int .i64 k ∧ OwnB wr w.heap.size key (keyL (xs.take k)) ∧ Below w.heap.size w wr) (fun _ i wx => xs.length - (intOf i).toNat)
  case atStart => exact ⟨0, Nat.zero_le _, rfl, World.ownsRow_nil _ _ _ _, Below.refl _ _⟩
  case round =>
    obtain ⟨k, hk1, rfl, ho, hbel⟩ := hrel
    have ha' := ha.later hbel
    by_cases h1 : k < xs.length
    · obtain ⟨x, hx⟩ : ∃ x, xs[k]? = some x := ⟨_, List.getElem?_eq_getElem h1⟩
      rcases ha' with e | ⟨ba, oa, rfl, hca⟩
      · subst e; simp at h1
      obtain ⟨c0, c1, c2⟩ := hca k x hx
      have i1 : (k : Int) < (xs.length : Int) := by omega
      have HT := hide (keyL_take hx)
      have hl : (keyL (xs.take k)).length + wide x ≤ 140737488300000 := by
        have h1 := keyL_len (xs.take k)
        have h2 := wides_take hx
        omega
      have HC := hide (fun W (hW : OwnB W w.heap.size u3 (keyL (xs.take k))) (hs : w.heap.size ≤ W.heap.size) => appval_any w.heap.size (keyL (xs.take k)) x u3 W hW hl hs)
      clear hca hx hl
      go_wp2_with (go_at_call 104; refine (unhide HC _ ?_ ?_).mono ?_; (exact World.ownsRow.alloc ho _); (have := hbel.size; simp; omega); rintro e w1 ⟨v1, rfl, ho1, hg1⟩)
      have hb1 : Below w.heap.size w w1 := (below_alloc hbel _).trans (hg1.below (by have := hbel.size; simp; omega) (fun g hg => (ownB_lt ho hg).1))
      rw [← unhide HT] at ho1
      go_roundw
      case rel => exact ⟨k + 1, by omega, by go_num, ho1, hb1⟩
      case measure => simp [intOf]; omega
    · have e : k = xs.length := by omega
      have i1 : ¬ (k : Int) < (xs.length : Int) := by omega
      have HE : Hid (xs.take k = xs) := List.take_of_length_le (by omega)
      have hcv := convert_own ho
      rw [unhide HE] at hcv
      clear e
      go_wp2
      go_ret
      exact ⟨rfl, hbel⟩


theorem be_alt (U : Int) (k : Nat) (h : k < 8) : U / 2 ^ (8 * (7 - k)) % 256 = be U k := by
  unfold be
  rw [show 8 * (7 - k) = 56 - 8 * k by omega]

set_option maxHeartbeats 1000000 in
set_option maxRecDepth 100000 in
theorem bytes8_any (U : Int) (w : World) :
    Calls Tryz.prog 32 #[.int .u64 U, .int .i64 8] w fun e w' => e = .returned (.string (toB (be8 U 8))) ∧ Below w.heap.size w w' := by
  obtain ⟨i0, hi, hz0, hz1, hz2⟩ := info_parts Tryz.info5
  go_enter Tryz.func32, Tryz.ntmps32
  go_wp2_with fail
  go_loopw [5, 6] (fun b s wr => ∃ k : Nat, k ≤ 8 ∧ s = .int .i64 (7 - (k : Int)) ∧ OwnB wr w.heap.size b (be8 U k) ∧ Below w.heap.size w wr) (fun _ s _ => (intOf s + 1).toNat)
  case atStart => exact ⟨0, Nat.zero_le _, rfl, World.ownsRow_nil _ _ _ _, Below.refl _ _⟩
  case round =>
    obtain ⟨k, hk, rfl, ho, hg⟩ := hrel
    by_cases h8 : k < 8
    · have h9 : (0 : Int) ≤ 7 - (k : Int) := by omega
      have hl : (be8 U k).length = k := be8_len _ _
      have HL := hide hl
      clear hl
      go_wp2_with (at_builtin; refine wpList_append_own_at _ rfl (.tmp 13) (.tmp 19) 71 rfl w.heap.size 5 i0 (.int .u8 0) 1 1 Tryz.underlying71 hi hz0 hz1 hz2 rfl (by decide) _ _ _ rfl (World.ownsRow.alloc ho _) ⟨wr.heap.size, 0, none⟩ 1 1 [.int .u8 (U / 2 ^ (8 * (7 - k)) % 256)] rfl rfl (cell_one_new _ _ _) (by intro u hu; simp at hu; subst hu; rfl) (by rw [unhide HL]; unfold maxLen; omega) (by rw [unhide HL]; omega) (by have := hg.size; simp; omega) ?_; intro v' w1 hown' hgrow _ hat)
      have hg2 := Grew.app (Grew.refl wr u5) hgrow hat
      have ho2 := ownB_app (news := [U / 2 ^ (8 * (7 - k)) % 256]) rfl hown'
      rw [be_alt U k h8, ← be8_succ] at ho2
      have hb1 : Below w.heap.size w w1 := hg.trans (hg2.below hg.size (fun g hh => (ownB_lt ho hh).1))
      go_roundw
      case rel => exact ⟨k + 1, by omega, by go_num, ho2, hb1⟩
      case measure => simp only [intOf]; omega
    · have hk8 : k = 8 := by omega
      subst hk8
      have hcv := convert_own ho
      go_wp2
      go_ret
      exact ⟨rfl, hg⟩

theorem toB_1 : toB [1] = ⟨#[1]⟩ := rfl
theorem toB_2 : toB [2] = ⟨#[2]⟩ := rfl
theorem toB_3 : toB [3] = ⟨#[3]⟩ := rfl
theorem toB_255 : toB [255] = ⟨#[255]⟩ := rfl
theorem toB_01 : toB [0, 1] = ⟨#[0, 1]⟩ := rfl
theorem extract_one (x : ByteArray) (j : Nat) (h : j < x.size) : x.extract j (j + 1) = toB [(x[j].toNat : Int)] := by
  have e : ofI (x[j].toNat : Int) = x[j] := by simp [ofI]
  rw [toB_eq, List.map_cons, List.map_nil, e]
  apply WideShapes.bytes_inj
  rw [Lib.extract_data]
  have h' : j < x.data.toList.length := by simpa using h
  rw [List.drop_eq_getElem_cons h']
  simp
  rfl

set_option maxHeartbeats 4000000 in
set_option maxRecDepth 100000 in
theorem rkey_any (aa : Option Addr) (ca : Nat) (xs : List Val) (w : World) (hla : xs.length ≤ maxLen) (hw : wides xs ≤ 140737488300000) (ha : RowAt w aa xs) :
    Calls Tryz.prog 36 #[.slice aa xs.length ca] w fun e w' => e = .returned (.string (toB (keyL xs))) ∧ Below w.heap.size w w' := by
  unfold maxLen at hla
  go_enter Tryz.func36, Tryz.ntmps36
  go_wp2_with fail
  go_loopw [3, 9] (fun s i wr => ∃ k : Nat, k ≤ xs.length ∧ i = .int .i64 k ∧ s = .string (toB (keyL (xs.take k))) ∧ Below w.heap.size w wr) (fun _ i wx => xs.length - (intOf i).toNat)
  case atStart => exact ⟨0, Nat.zero_le _, rfl, rfl, Below.refl _ _⟩
  case round =>
    obtain ⟨k, hk1, rfl, rfl, hbel⟩ := hrel
    have ha' := ha.later hbel
    by_cases h1 : k < xs.length
    · obtain ⟨x, hx⟩ : ∃ x, xs[k]? = some x := ⟨_, List.getElem?_eq_getElem h1⟩
      rcases ha' with e | ⟨ba, oa, rfl, hca⟩
      · subst e; simp at h1
      obtain ⟨c0, c1, c2⟩ := hca k x hx
      have i1 : (k : Int) < (xs.length : Int) := by omega
      have HT := hide (keyL_take hx)
      have hl : (keyL (xs.take k)).length + wide x ≤ 140737488300000 := by
        have h1 := keyL_len (xs.take k)
        have h2 := wides_take hx
        omega
      have HC := hide (rclean_any x)
      clear hca hx
      generalize keyL (xs.take k) = zs at *
      go_upto_region 5 with fail
      go_cut [] (fun wx => BoxAt wx wr.heap.size (cleanV x) ∧ Below w.heap.size w wx)
      case first =>
        go_wp2_with (go_at_call 31; refine (unhide HC _).mono ?_; rintro e w1 ⟨rfl, hb1⟩; obtain ⟨hc1, hf1⟩ := bcell hb1; rw [Val.open_])
        go_meet
        refine ⟨⟨by simp [go_sem, hc1, hf1], by simp [go_sem, hc1, hf1], by simp [go_sem, hc1, hf1]⟩, ?_⟩
        exact ((((below_step (below_alloc hbel _) hb1).setCell (by simpa using hbel.size) _).setCell (by simpa using hbel.size) _).setCell (by simpa using hbel.size) _)
      case rest =>
        obtain ⟨⟨q0, q1, q2⟩, hbel2⟩ := hcut
        clear HC c0 c1 c2
        rename World => wa
        unfold wide at hl
        rcases Bool.eq_false_or_eq_true (x.k == 1) with k1 | k1
        · have hv : cleanV x = .num x.n := by simp [cleanV, k1]
          have HV : Hid (encV x = 2 :: be8 (keyU x.n) 8) := by show _ = _; simp [encV, k1]
          rw [hv] at q0 q1 q2
          simp only [Val.num] at q0 q1 q2
          clear hv k1
          have z1 : (toB (be8 (keyU x.n) 8)).size = 8 := by rw [toB_size, be8_len]
          have z2 : (toB zs).size ≤ 140737488300000 := by rw [toB_size]; omega
          have HB := hide (bytes8_any (keyU x.n))
          generalize hb8 : toB (be8 (keyU x.n) 8) = B8 at *
          have HB8 := hide hb8
          clear hb8
          generalize hS : toB zs = S at *
          have HS := hide hS
          clear hS
          have n1 : ¬ 9223372036854775807 < 1 + B8.size := by omega
          have n2 : ¬ 9223372036854775807 < S.size + (1 + B8.size) := by omega
          go_wp2_with (go_at_call 32; refine (unhide HB _).mono ?_; rintro e w1 ⟨rfl, hb1⟩)
          have hval : S ++ (⟨#[2]⟩ ++ B8) = toB (keyL (xs.take (k + 1))) := by
            rw [unhide HT, unhide HV, toB_append, toB_cons, toB_2, unhide HS, unhide HB8]
          go_roundw
          case rel => exact ⟨k + 1, by omega, by go_num, congrArg Value.string hval, below_step hbel2 hb1⟩
          case measure => simp [intOf]; omega
        · rcases Bool.eq_false_or_eq_true (x.k == 2) with k2 | k2
          · have hv : cleanV x = .str x.s := by simp [cleanV, k1, k2]
            have HV : Hid (encV x = 3 :: (encT x.s.data.toList ++ [0, 1])) := by show _ = _; simp [encV, k1, k2]
            rw [hv] at q0 q1 q2
            simp only [Val.str] at q0 q1 q2
            clear hv k1 k2
            have z2 : (toB zs).size ≤ 140737488300000 := by rw [toB_size]; omega
            have n1 : ¬ 9223372036854775807 < (toB zs).size + 1 := by omega
            have hss : (x.s.size : Int) ≤ 140737488300000 := by omega
            go_wp2_with fail
            go_loop [3, 6] (fun st i => ∃ j : Nat, j ≤ x.s.size ∧ i = .int .i64 j ∧ st = .string (toB (zs ++ (3 :: encT (x.s.data.toList.take j))))) (fun _ i => x.s.size - (intOf i).toNat)
            case atStart => exact ⟨0, Nat.zero_le _, rfl, congrArg Value.string (by rw [toB_append]; simp [encT, toB_3])⟩
            case round =>
              obtain ⟨j, hj, rfl, rfl⟩ := hrel
              have z3 : (toB (zs ++ (3 :: encT (x.s.data.toList.take j)))).size ≤ zs.length + 1 + 2 * j := by
                rw [toB_size, List.length_append, List.length_cons]
                have h1 := encT_len (x.s.data.toList.take j)
                have h2 : (x.s.data.toList.take j).length ≤ j := List.length_take_le _ _
                omega
              by_cases hj1 : j < x.s.size
              · have i2 : (j : Int) < (x.s.size : Int) := by omega
                have z4 : (x.s.extract j (j + 1)).size = 1 := by rw [extract_one _ _ hj1, toB_size]; rfl
                by_cases h0 : (x.s[j].toNat : Int) = 0
                · have h0' : ((x.s[j].toNat : Int) == 0) = true := by simpa using h0
                  have HE : Hid (toB (zs ++ (3 :: encT (x.s.data.toList.take (j + 1)))) = toB (zs ++ (3 :: encT (x.s.data.toList.take j))) ++ x.s.extract j (j + 1) ++ ⟨#[255]⟩) := by
                    show _ = _
                    rw [enc_zero _ _ hj1 h0, extract_one _ _ hj1, ← toB_255, ← toB_append, ← toB_append]
                    simp
                  clear h0
                  generalize toB (zs ++ (3 :: encT (x.s.data.toList.take j))) = S at *
                  have n2 : ¬ 9223372036854775807 < S.size + (x.s.extract j (j + 1)).size := by omega
                  have n3 : ¬ 9223372036854775807 < S.size + (x.s.extract j (j + 1)).size + 1 := by omega
                  go_wp2
                  go_round
                  case rel => exact ⟨j + 1, by omega, by go_num, congrArg Value.string (unhide HE).symm⟩
                  case measure => simp [intOf]; omega
                · have h0' : ((x.s[j].toNat : Int) == 0) = false := by simpa using h0
                  have HE : Hid (toB (zs ++ (3 :: encT (x.s.data.toList.take (j + 1)))) = toB (zs ++ (3 :: encT (x.s.data.toList.take j))) ++ x.s.extract j (j + 1)) := by
                    show _ = _
                    rw [enc_other _ _ hj1 h0, extract_one _ _ hj1, ← toB_append]
                    simp
                  clear h0
                  generalize toB (zs ++ (3 :: encT (x.s.data.toList.take j))) = S at *
                  have n2 : ¬ 9223372036854775807 < S.size + (x.s.extract j (j + 1)).size := by omega
                  go_wp2
                  go_round
                  case rel => exact ⟨j + 1, by omega, by go_num, congrArg Value.string (unhide HE).symm⟩
                  case measure => simp [intOf]; omega
              · have i2 : ¬ (j : Int) < (x.s.size : Int) := by omega
                have HE : Hid (toB (zs ++ (3 :: encT (x.s.data.toList.take j))) ++ ⟨#[0, 1]⟩ = toB (keyL (xs.take (k + 1)))) := by
                  show _ = _
                  rw [unhide HT, unhide HV, List.take_of_length_le (by simp; omega), ← toB_01, ← toB_append]
                  simp
                generalize toB (zs ++ (3 :: encT (x.s.data.toList.take j))) = S at *
                have n2 : ¬ 9223372036854775807 < S.size + 2 := by omega
                go_wp2
                go_roundw
                case rel => exact ⟨k + 1, by omega, by go_num, congrArg Value.string (unhide HE), hbel2⟩
                case measure => simp [intOf]; omega
          · have hv : cleanV x = .null := by simp [cleanV, k1, k2]
            have HV : Hid (encV x = [1]) := by show _ = _; simp [encV, k1, k2]
            rw [hv] at q0 q1 q2
            simp only [Val.null] at q0 q1 q2
            clear hv k1 k2
            have z2 : (toB zs).size ≤ 140737488300000 := by rw [toB_size]; omega
            generalize hS : toB zs = S at *
            have HS := hide hS
            clear hS
            have n1 : ¬ 9223372036854775807 < S.size + 1 := by omega
            go_wp2
            have hval : S ++ ⟨#[1]⟩ = toB (keyL (xs.take (k + 1))) := by
              rw [unhide HT, unhide HV, toB_append, toB_1, unhide HS]
            go_roundw
            case rel => exact ⟨k + 1, by omega, by go_num, congrArg Value.string hval, hbel2⟩
            case measure => simp [intOf]; omega
    · have e : k = xs.length := by omega
      have i1 : ¬ (k : Int) < (xs.length : Int) := by omega
      have HE : Hid (xs.take k = xs) := List.take_of_length_le (by omega)
      clear e
      go_wp2
      go_ret
      exact ⟨by rw [unhide HE]; rfl, hbel⟩


end Go.Proofs.YthbfomcmjjnikaaGreat

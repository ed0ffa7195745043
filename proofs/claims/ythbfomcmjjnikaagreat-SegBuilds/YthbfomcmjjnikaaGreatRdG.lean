import Derived.Test.YthbfomcmjjnikaaGreatPackU
import Derived.Shelf.SlSortCmp.WholeK
import Derived.Shelf.GgSortMore.Stable
import Derived.Shelf.SlGeneric
import Derived.Ground.SlsfProg
import Derived.Ground.GgtProg
import Derived.Test.YthbfomcmjjnikaaGreatProg
import Derived.Test.YthbfomcmjjnikaaGreatPackH
set_option linter.unusedSimpArgs false
set_option linter.unusedVariables false
namespace Go.Proofs.YthbfomcmjjnikaaGreat
open Go.RowKit Go.Sort

/-- The i-th number of d bits. -/
def numAt (T d i : Nat) : Nat := T / 2 ^ (d * i) % 2 ^ d
def numsOf (t : List UInt8) (d count : Nat) : List Nat := (List.range count).map (numAt (leV t) d)
def nlOfT (t : List UInt8) (count : Nat) : List Bool := (numsOf t 1 count).map (· == 1)
def nullsD (count : Nat) (l : List UInt8) : Option (List Bool × List UInt8) :=
  (numD 1 l).bind fun p => if p.1 = 0 then some (List.replicate count false, p.2) else if p.1 = 1 then
    (bitsD count 1 p.2).bind fun q => if (nlOfT q.1 count).any id then some (nlOfT q.1 count, q.2) else none
  else none
theorem Rd.grx {w w' : World} {b B : Nat} {l : List UInt8} (h : Rd w b l) (hg : Gr w w' B) (hne : b ≠ B) : Rd w' b l :=
  World.rowIs.of_block h (hg.block b h.ne (fun e => hne (by injection e)))
theorem Gr.fresh {w wr w' : World} {b B : Nat} (h : Gr w wr b) (hg : Gr wr w' B) (hB : w.heap.size ≤ B) : Gr w w' b := by
  have h2 := h.size
  exact ⟨hg.os.trans h.os, hg.tape.trans h.tape, hg.output.trans h.output, Nat.le_trans h2 hg.size, fun i hi hne => by
    rw [hg.block i (by omega) (fun e => by injection e with e; omega), h.block i hi hne]⟩
theorem row_grx {w w' : World} {g t n B : Nat} {F : Nat → Value} (h : w.rowIs g t n F) (hg : Gr w w' B) (hne : g ≠ B) : w'.rowIs g t n F :=
  h.of_block (hg.block g h.lt (fun e => hne (by injection e)))
theorem Bits.next {w w' : World} {A B C d k : Nat} {t : List UInt8} (h : Bits w A B C d (d * k) t) (hb : At1 w' B 3 (.int .i64 ((d * k + d : Nat) : Int))) (hg : Gr w w' B) : Bits w' A B C d (d * (k + 1)) t :=
  ⟨h.a.gr hg h.ab, by rw [Nat.mul_succ]; exact hb, h.c.gr hg h.cb, h.ab, h.cb⟩
theorem Bits.set {w : World} {A B C d P g j : Nat} {t : List UInt8} (h : Bits w A B C d P t) (v : Value) (h1 : A ≠ g) (h2 : B ≠ g) (h3 : C ≠ g) : Bits (w.setCell ⟨g, j, none⟩ v) A B C d P t :=
  ⟨World.rowIs.setOther h.a h1 v, World.rowIs.setOther h.b h2 v, World.rowIs.setOther h.c h3 v, h.ab, h.cb⟩
theorem Bits.alloc {w : World} {A B C d P : Nat} {t : List UInt8} (h : Bits w A B C d P t) (o : Obj) : Bits (w.alloc o) A B C d P t := ⟨h.a.new o, h.b.new o, h.c.new o, h.ab, h.cb⟩
/-- The next number. -/
theorem next_any {w : World} {A B C d k count : Nat} {t : List UInt8} (h : Bits w A B C d (d * k) t) (hd : d ≤ 64) (hk : k < count) (hc : count ≤ 4096) (hl : t.length = bytesN count d) :
    Calls Tryz.prog 177 #[.pointer (some ⟨A, 0, none⟩), .pointer (some ⟨B, 0, none⟩), .pointer (some ⟨C, 0, none⟩)] w fun e w' =>
      e = .returned (.int .u64 ((numAt (leV t) d k : Nat) : Int)) ∧ Bits w' A B C d (d * (k + 1)) t ∧ Gr w w' B := by
  have h1 : d * k + d ≤ d * count := by rw [← Nat.mul_succ]; exact Nat.mul_le_mul_left _ hk
  have h2 : count * d ≤ 4096 * 64 := Nat.mul_le_mul hc hd
  have h3 : d * count = count * d := Nat.mul_comm _ _
  refine (bits1_any A B C (d * k) d t w h.a h.b h.c h.ab h.cb hd (by rw [hl]; unfold bytesN; omega) (by rw [hl]; unfold bytesN; omega)).mono ?_
  rintro e w' ⟨rfl, hb, hg⟩
  exact ⟨rfl, h.next hb hg, hg⟩
def cntT (nl : List Bool) (k : Nat) : Nat := (nl.take k).count true
theorem cntT_next {nl : List Bool} {k : Nat} {x : Bool} (h : nl[k]? = some x) : cntT nl (k + 1) = cntT nl k + (if x then 1 else 0) := by
  obtain ⟨h1, rfl⟩ := List.getElem?_eq_some_iff.1 h
  unfold cntT
  rw [List.take_succ_eq_append_getElem h1, List.count_append]
  cases nl[k] <;> simp
theorem cntT_le (nl : List Bool) (k : Nat) : cntT nl k ≤ k := by
  unfold cntT
  exact Nat.le_trans List.count_le_length (List.length_take_le _ _)
theorem nlOfT_len (t : List UInt8) (count : Nat) : (nlOfT t count).length = count := by simp [nlOfT, numsOf]
theorem nlOfT_at {t : List UInt8} {count k : Nat} (h : k < count) : (nlOfT t count)[k]? = some (numAt (leV t) 1 k == 1) := by simp [nlOfT, numsOf, h]
def bF (nl : List Bool) (k : Nat) (j : Nat) : Value := .bool (if j < k then nl.getD j false else false)
/-- What nulls ends with. -/
def NullsR (w w' : World) (e : Ending) (b count : Nat) (o : Option (List Bool × List UInt8)) : Prop :=
  (∃ nl r g, o = some (nl, r) ∧ e = .returned (.tuple #[.slice (some ⟨g, 0, none⟩) count count, .int .i64 (nl.count true : Nat)]) ∧ w'.rowIs g 4 count (fun j => .bool (nl.getD j false)) ∧ nl.length = count ∧ w.heap.size ≤ g ∧ Rd w' b r ∧ Gr w w' b) ∨ (o = none ∧ e = dmg ∧ Gr w w' b)
theorem Gr.of_alloc {w w1 : World} {b : Nat} {o : Obj} (h : Gr (w.alloc o) w1 b) : Gr w w1 b := (Gr.alloc w b o).trans h
set_option maxHeartbeats 2000000 in
set_option maxRecDepth 100000 in
theorem nulls_zero {b count : Nat} {l r : List UInt8} {w : World} (hc : count ≤ 4096) (h : Rd w b l) (hl : l.length ≤ 140737488355328) (hd : numD 1 l = some (0, r)) :
    Calls Tryz.prog 150 #[.pointer (some ⟨b, 0, none⟩), .int .i64 count] w fun e w' => NullsR w w' e b count (some (List.replicate count false, r)) := by
  obtain ⟨i6, hi6, z60, z61, z62⟩ := info_parts Tryz.info4
  have HN := hide (fun o => numd_yes (h.alloc o) hl hd (by decide))
  have hne : w.heap.size ≠ b := by have := h.ne; omega
  have HNE := hide hne
  clear h hne
  go_enter Tryz.func150, Tryz.ntmps150
  go_wp2_with (first
    | (at_make; refine wpList_make_row _ rfl (.tmp 11) (.tmp 11) 45 rfl 4 i6 (.bool false) Tryz.underlying45 hi6 z60 z61 rfl .i64 .i64 count rfl rfl (by rw [z62]; omega) (by omega) ?_)
    | (go_at_call 148; refine (unhide HN _).mono ?_; rintro e w1 ⟨rfl, hr1, hg1⟩)
    | (go_at_call 149; refine (ensureT _ (by decide) _).mono ?_; rintro e w2 ⟨rfl, rfl⟩))
  go_ret2
  refine .inl ⟨_, r, w.heap.size, rfl, ?_, ?_, by simp, Nat.le_refl _, hr1, hg1.of_alloc⟩
  · have : (List.replicate count false).count true = 0 := by rw [List.count_replicate]; rfl
    rw [this]; rfl
  · refine World.rowIs.congr (row_grx (World.rowIs_made w (.bool false) count 4) hg1 (unhide HNE)) fun j hj => ?_
    simp [List.getD_eq_getElem?_getD, hj]
set_option maxHeartbeats 2000000 in
set_option maxRecDepth 100000 in
theorem nulls_num {b count : Nat} {l : List UInt8} {w : World} (hc : count ≤ 4096) (h : Rd w b l) (hl : l.length ≤ 140737488355328) (hd : numD 1 l = none) :
    Calls Tryz.prog 150 #[.pointer (some ⟨b, 0, none⟩), .int .i64 count] w fun e w' => e = dmg ∧ Gr w w' b := by
  obtain ⟨i6, hi6, z60, z61, z62⟩ := info_parts Tryz.info4
  have HN := hide (fun o => numd_no (h.alloc o) hl hd)
  clear h
  go_enter Tryz.func150, Tryz.ntmps150
  go_wp2_with (first
    | (at_make; refine wpList_make_row _ rfl (.tmp 11) (.tmp 11) 45 rfl 4 i6 (.bool false) Tryz.underlying45 hi6 z60 z61 rfl .i64 .i64 count rfl rfl (by rw [z62]; omega) (by omega) ?_)
    | (go_at_call 148; refine (unhide HN _).mono ?_; rintro e w1 ⟨rfl, rfl⟩))
  exact ⟨rfl, rfl, Gr.alloc _ _ _⟩
set_option maxHeartbeats 2000000 in
set_option maxRecDepth 100000 in
theorem nulls_mark {b count m : Nat} {l r : List UInt8} {w : World} (hc : count ≤ 4096) (h : Rd w b l) (hl : l.length ≤ 140737488355328) (hd : numD 1 l = some (m, r)) (hm : 1 < m) :
    Calls Tryz.prog 150 #[.pointer (some ⟨b, 0, none⟩), .int .i64 count] w fun e w' => e = dmg ∧ Gr w w' b := by
  obtain ⟨i6, hi6, z60, z61, z62⟩ := info_parts Tryz.info4
  have HN := hide (fun o => numd_yes (h.alloc o) hl hd (by decide))
  clear h
  go_enter Tryz.func150, Tryz.ntmps150
  go_wp2_with (first
    | (at_make; refine wpList_make_row _ rfl (.tmp 11) (.tmp 11) 45 rfl 4 i6 (.bool false) Tryz.underlying45 hi6 z60 z61 rfl .i64 .i64 count rfl rfl (by rw [z62]; omega) (by omega) ?_)
    | (go_at_call 148; refine (unhide HN _).mono ?_; rintro e w1 ⟨rfl, hr1, hg1⟩)
    | (go_at_call 149; refine (ensureF _ (decide_eq_false (by omega)) _).mono ?_; rintro e w2 ⟨rfl, rfl⟩))
  exact ⟨rfl, rfl, hg1.of_alloc⟩
set_option maxHeartbeats 2000000 in
set_option maxRecDepth 100000 in
theorem nulls_bits {b count : Nat} {l r : List UInt8} {w : World} (hc : count ≤ 4096) (h : Rd w b l) (hl : l.length ≤ 140737488355328) (hd : numD 1 l = some (1, r)) (hb : bitsD count 1 r = none) :
    Calls Tryz.prog 150 #[.pointer (some ⟨b, 0, none⟩), .int .i64 count] w fun e w' => e = dmg ∧ Gr w w' b := by
  obtain ⟨i6, hi6, z60, z61, z62⟩ := info_parts Tryz.info4
  have HN := hide (fun o => numd_yes (h.alloc o) hl hd (by decide))
  have hrl := numD_le hd
  have HB := hide (fun W (hW : Rd W b r) => bitsd_no hc (by decide) hW (by omega) hb)
  clear h
  go_enter Tryz.func150, Tryz.ntmps150
  go_wp2_with (first
    | (at_make; refine wpList_make_row _ rfl (.tmp 11) (.tmp 11) 45 rfl 4 i6 (.bool false) Tryz.underlying45 hi6 z60 z61 rfl .i64 .i64 count rfl rfl (by rw [z62]; omega) (by omega) ?_)
    | (go_at_call 148; refine (unhide HN _).mono ?_; rintro e w1 ⟨rfl, hr1, hg1⟩)
    | (go_at_call 149; refine (ensureT _ (by decide) _).mono ?_; rintro e w2 ⟨rfl, rfl⟩)
    | (go_at_call 161; refine (unhide HB _ hr1).mono ?_; rintro e w3 ⟨rfl, hg3⟩))
  exact ⟨rfl, rfl, hg1.of_alloc.trans hg3⟩
set_option maxHeartbeats 1000000 in
set_option maxRecDepth 100000 in
theorem nulls_one {b count : Nat} {l r t r2 : List UInt8} {w : World} (hc : count ≤ 4096) (h : Rd w b l) (hl : l.length ≤ 140737488355328) (hd : numD 1 l = some (1, r)) (hb : bitsD count 1 r = some (t, r2)) (O : Option (List Bool × List UInt8)) (HO : Hid (O = if (nlOfT t count).any id then some (nlOfT t count, r2) else none)) :
    Calls Tryz.prog 150 #[.pointer (some ⟨b, 0, none⟩), .int .i64 count] w fun e w' => NullsR w w' e b count O := by
  obtain ⟨i6, hi6, z60, z61, z62⟩ := info_parts Tryz.info4
  have HN := hide (fun o => numd_yes (h.alloc o) hl hd (by decide))
  have hrl := numD_le hd
  have HB := hide (fun W (hW : Rd W b r) => bitsd_yes hc (by decide) hW (by omega) hb)
  have htl := (bitsD_some hb).1
  have hbw := h.ne
  have hne : w.heap.size ≠ b := by omega
  have HNE := hide hne
  have HTL := hide htl
  clear h hne htl
  go_enter Tryz.func150, Tryz.ntmps150
  go_wp2_with (first
    | (at_make; refine wpList_make_row _ rfl (.tmp 11) (.tmp 11) 45 rfl 4 i6 (.bool false) Tryz.underlying45 hi6 z60 z61 rfl .i64 .i64 count rfl rfl (by rw [z62]; omega) (by omega) ?_)
    | (go_at_call 148; refine (unhide HN _).mono ?_; rintro e w1 ⟨rfl, hr1, hg1⟩)
    | (go_at_call 149; refine (ensureT _ (by decide) _).mono ?_; rintro e w2 ⟨rfl, rfl⟩)
    | (go_at_call 161; refine (unhide HB _ hr1).mono ?_; rintro e w3 ⟨A, B, C, rfl, hb3, hA, hB, hC, hr3, hg3⟩))
  have hrow := row_grx (row_grx (World.rowIs_made w (.bool false) count 4) hg1 (unhide HNE)) hg3 (unhide HNE)
  have hG3 := hg1.of_alloc.trans hg3
  have hz2 : w.heap.size + 1 ≤ w2.heap.size := by have := hg1.size; simpa using this
  have hA' : w.heap.size < A := by omega
  have hB' : w.heap.size < B := by omega
  have hC' : w.heap.size < C := by omega
  clear hA hB hC hz2 hg1 hg3 hr1
  go_loopw [8, 26] (fun s i wr => ∃ k : Nat, k ≤ count ∧ i = .int .i64 (k : Int) ∧ s = .int .i64 (cntT (nlOfT t count) k : Nat) ∧ wr.rowIs w.heap.size 4 count (bF (nlOfT t count) k) ∧ Bits wr A B C 1 (1 * k) t ∧ Rd wr b r2 ∧ Gr w wr b) (fun _ i _ => count - (intOf i).toNat)
  case atStart => exact ⟨0, Nat.zero_le _, rfl, rfl, hrow.congr fun j hj => by simp [bF], hb3, hr3, hG3⟩
  case round =>
    obtain ⟨k, hk, rfl, rfl, hrw, hbi, hrr, hgr⟩ := hrel
    have hcn := cntT_le (nlOfT t count) k
    by_cases hlt : k < count
    · have h9 : (k : Int) < (count : Int) := by omega
      have hat := nlOfT_at (t := t) hlt
      have hct := cntT_next hat
      have HC := hide (next_any hbi (by decide) hlt hc (unhide HTL))
      have HKEEP : Hid (∀ w4, Gr wr w4 B → w4.rowIs w.heap.size 4 count (bF (nlOfT t count) k) ∧ Rd w4 b r2 ∧ Gr w w4 b) := fun w4 hg4 =>
        ⟨row_grx hrw hg4 (by omega), hrr.grx hg4 (by omega), hgr.fresh hg4 (by omega)⟩
      have HF : Hid (∀ j, bF (nlOfT t count) (k + 1) j = if j = k then .bool (numAt (leV t) 1 k == 1) else bF (nlOfT t count) k j) := fun j => by
        unfold bF
        by_cases hj : j = k
        · subst hj; simp [List.getD_eq_getElem?_getD, hat]
        · rw [if_neg hj]
          by_cases hl2 : j < k
          · rw [if_pos hl2, if_pos (by omega)]
          · rw [if_neg hl2, if_neg (by omega)]
      have HCT := hide hct
      generalize numAt (leV t) 1 k = x at HC HF HCT
      clear hat hrw hbi hrr hgr hct
      by_cases hx : x = 1
      · subst hx
        go_wp2_with (go_at_call 177; refine (unhide HC).mono ?_; rintro e w4 ⟨rfl, hb4, hg4⟩; obtain ⟨hrw4, hr4, hG4⟩ := unhide HKEEP w4 hg4; have cm := hrw4.cell hlt; have fm := hrw4.frozen k)
        go_roundw
        case rel =>
          refine ⟨k + 1, by omega, by go_num, by rw [unhide HCT]; go_num, (hrw4.set k (.bool true)).congr fun j hj => ?_, hb4.set _ (by omega) (by omega) (by omega), World.rowIs.setOther hr4 (by simp; omega) _, ?_⟩
          · rw [unhide HF j]; rfl
          · exact hG4.fresh (grown_set _ _ _ _) (Nat.le_refl _)
        case measure => simp [intOf]; omega
      · have hx1 : ((x : Int) == 1) = false := by simp; omega
        have hx2 : (x == 1) = false := by simpa using hx
        rw [hx2] at HF HCT
        go_wp2_with (go_at_call 177; refine (unhide HC).mono ?_; rintro e w4 ⟨rfl, hb4, hg4⟩; obtain ⟨hrw4, hr4, hG4⟩ := unhide HKEEP w4 hg4)
        go_roundw
        case rel =>
          refine ⟨k + 1, by omega, by go_num, by rw [unhide HCT]; go_num, hrw4.congr fun j hj => ?_, hb4, hr4, hG4⟩
          rw [unhide HF j]
          by_cases hj : j = k
          · subst hj; rw [if_pos rfl]; simp [bF]
          · rw [if_neg hj]
        case measure => simp [intOf]; omega
    · have h9 : ¬ (k : Int) < (count : Int) := by omega
      have ek : k = count := by omega
      subst ek
      have e1 : cntT (nlOfT t k) k = (nlOfT t k).count true := by unfold cntT; rw [List.take_of_length_le (by rw [nlOfT_len]; omega)]
      have e2 : (nlOfT t k).any id = decide (0 < (nlOfT t k).count true) := by
        rw [Bool.eq_iff_iff]; simp [List.count_pos_iff]
      rw [e1] at hcn ⊢
      have HE := hide e2
      have HK : Hid (wr.rowIs w.heap.size 4 k (fun j => .bool ((nlOfT t k).getD j false)) ∧ Rd wr b r2 ∧ Gr w wr b) := ⟨hrw.congr fun j hj => by simp [bF, hj], hrr, hgr⟩
      have HLEN := hide (nlOfT_len t k)
      generalize nlOfT t k = nl at *
      clear e1 e2 hrw hbi hrr hgr
      generalize hcc : nl.count true = cc at *
      by_cases hp : 0 < cc
      · have hp2 : (0 : Int) < (cc : Int) := by omega
        have HE2 : Hid (O = some (nl, r2)) := by show _ = _; rw [unhide HO, unhide HE]; simp [hp]
        go_wp2_with (go_at_call 149; refine (ensureT _ (by simp) _).mono ?_; rintro e w2 ⟨rfl, rfl⟩)
        go_ret2
        exact .inl ⟨nl, r2, w.heap.size, unhide HE2, by rw [hcc]; rfl, (unhide HK).1, unhide HLEN, Nat.le_refl _, (unhide HK).2⟩
      · have hp2 : ¬ (0 : Int) < (cc : Int) := by omega
        have HE2 : Hid (O = none) := by show _ = _; rw [unhide HO, unhide HE]; simp [hp]
        have hc0 : cc = 0 := by omega
        clear hp hp2
        subst hc0
        go_wp2_with (go_at_call 149; refine (ensureF _ (by first | rfl | simp) _).mono ?_; rintro e w2 ⟨rfl, rfl⟩)
        exact ⟨rfl, .inr ⟨unhide HE2, rfl, (unhide HK).2.2⟩⟩
end Go.Proofs.YthbfomcmjjnikaaGreat
/-
  DERIVED: THE SHELF's CONTRACTS AT THIS DUMP, IN PLAIN WORDS (tools/lay-plain.mjs out of 'XShelf.lean', which tools/lay-shelf.mjs wrote): THE SAME DECLARATIONS UNDER THE SAME NAMES: 'import', 'namespace', 'open', 'def', 'theorem' AND NOTHING ELSE: no command of the shelf's: FOR A HAND-IN. Each laying: the table of numbers ('.._ren') and one theorem, a field a fact of the dump's own or the kernel's comparison; each contract: ONE APPLICATION.
-/
namespace Go.Proofs
open Go.Shelf
def Tryz.sortL_ren : Go.Shelf.Ren := ⟨fun | 6 => 142 | 15 => 159 | 14 => 158 | 28 => 176 | 29 => 147 | 20 => 168 | 21 => 169 | 22 => 170 | 23 => 171 | 24 => 172 | 25 => 173 | 26 => 174 | 27 => 175 | 46 => 181 | 47 => 182 | 48 => 183 | 49 => 184 | 50 => 185 | 57 => 188 | n => n, fun | 22 => 37 | 24 => 59 | 25 => 130 | 3 => 3 | 39 => 112 | 0 => 0 | 53 => 111 | 55 => 73 | 4 => 4 | 46 => 207 | 45 => 206 | 50 => 188 | 5 => 5 | 9 => 9 | 66 => 215 | 70 => 218 | 76 => 223 | 77 => 224 | n => n, fun | n => n⟩
theorem Tryz.sortL : Go.Proofs.SlLaysF0.n6 Tryz.prog Tryz.sortL_ren := {
  mixed := by kernel_rfl
  f6 := ⟨Tryz.f142.name, by decide, Tryz.func142.trans (congrArg some (by kernel_rfl))⟩
  f14 := ⟨Tryz.f158.name, by decide, Tryz.func158.trans (congrArg some (by kernel_rfl))⟩
  f15 := Tryz.func159.trans (congrArg some (by kernel_rfl))
  f20 := ⟨Tryz.f168.name, by decide, Tryz.func168.trans (congrArg some (by kernel_rfl))⟩
  f21 := ⟨Tryz.f169.name, by decide, Tryz.func169.trans (congrArg some (by kernel_rfl))⟩
  f22 := ⟨Tryz.f170.name, by decide, Tryz.func170.trans (congrArg some (by kernel_rfl))⟩
  f23 := ⟨Tryz.f171.name, by decide, Tryz.func171.trans (congrArg some (by kernel_rfl))⟩
  f24 := ⟨Tryz.f172.name, by decide, Tryz.func172.trans (congrArg some (by kernel_rfl))⟩
  f25 := ⟨Tryz.f173.name, by decide, Tryz.func173.trans (congrArg some (by kernel_rfl))⟩
  f26 := ⟨Tryz.f174.name, by decide, Tryz.func174.trans (congrArg some (by kernel_rfl))⟩
  f27 := ⟨Tryz.f175.name, by decide, Tryz.func175.trans (congrArg some (by kernel_rfl))⟩
  f28 := Tryz.func176.trans (congrArg some (by kernel_rfl))
  f29 := Tryz.func147.trans (congrArg some (by kernel_rfl))
  f46 := ⟨Tryz.f181.name, by decide, Tryz.func181.trans (congrArg some (by kernel_rfl))⟩
  f47 := Tryz.func182.trans (congrArg some (by kernel_rfl))
  f48 := Tryz.func183.trans (congrArg some (by kernel_rfl))
  f49 := ⟨Tryz.f184.name, by decide, Tryz.func184.trans (congrArg some (by kernel_rfl))⟩
  f50 := ⟨Tryz.f185.name, by decide, Tryz.func185.trans (congrArg some (by kernel_rfl))⟩
  f57 := ⟨Tryz.f188.name, by decide, Tryz.func188.trans (congrArg some (by kernel_rfl))⟩
  t0 := Tryz.underlying0
  a0 := Tryz.isAgg0
  z0 := Tryz.sizeOf0
  v0 := Tryz.zeroValue0
  t3 := Tryz.underlying3
  a3 := Tryz.isAgg3
  z3 := Tryz.sizeOf3
  v3 := Tryz.zeroValue3
  t4 := Tryz.underlying4
  a4 := Tryz.isAgg4
  z4 := Tryz.sizeOf4
  v4 := Tryz.zeroValue4
  t5 := Tryz.underlying5
  a5 := Tryz.isAgg5
  z5 := Tryz.sizeOf5
  v5 := Tryz.zeroValue5
  t9 := Tryz.underlying9
  a9 := Tryz.isAgg9
  z9 := Tryz.sizeOf9
  v9 := Tryz.zeroValue9
  t22 := Tryz.underlying37
  a22 := Tryz.isAgg37
  z22 := Tryz.sizeOf37
  v22 := Tryz.zeroValue37
  t25 := Tryz.underlying130
  a25 := Tryz.isAgg130
  z25 := Tryz.sizeOf130
  v25 := Tryz.zeroValue130
  t39 := Tryz.underlying112
  a39 := Tryz.isAgg112
  z39 := Tryz.sizeOf112
  v39 := Tryz.zeroValue112
  t45 := Tryz.underlying206
  a45 := Tryz.isAgg206
  z45 := Tryz.sizeOf206
  v45 := Tryz.zeroValue206
  t46 := Tryz.underlying207
  a46 := Tryz.isAgg207
  z46 := Tryz.sizeOf207
  v46 := Tryz.zeroValue207
  t50 := Tryz.underlying188
  a50 := Tryz.isAgg188
  z50 := Tryz.sizeOf188
  v50 := Tryz.zeroValue188
  t53 := Tryz.underlying111
  a53 := Tryz.isAgg111
  z53 := Tryz.sizeOf111
  v53 := Tryz.zeroValue111
  t55 := Tryz.underlying73
  a55 := Tryz.isAgg73
  z55 := Tryz.sizeOf73
  v55 := Tryz.zeroValue73
  t66 := Tryz.underlying215
  a66 := Tryz.isAgg215
  z66 := Tryz.sizeOf215
  v66 := Tryz.zeroValue215
  t70 := Tryz.underlying218
  a70 := Tryz.isAgg218
  z70 := Tryz.sizeOf218
  v70 := Tryz.zeroValue218
  t76 := Tryz.underlying223
  a76 := Tryz.isAgg223
  z76 := Tryz.sizeOf223
  v76 := Tryz.zeroValue223
  t77 := Tryz.underlying224
  a77 := Tryz.isAgg224
  z77 := Tryz.sizeOf224
  v77 := Tryz.zeroValue224 }
def Tryz.stabL_ren : Go.Shelf.Ren := ⟨fun | 8 => 88 | 13 => 107 | 14 => 108 | 16 => 110 | 15 => 109 | 29 => 137 | 30 => 138 | 42 => 156 | 49 => 167 | n => n, fun | 20 => 20 | 26 => 134 | 36 => 156 | 0 => 0 | 38 => 158 | 42 => 162 | 3 => 3 | 4 => 4 | 47 => 112 | 17 => 17 | 33 => 153 | 34 => 154 | 89 => 243 | 12 => 12 | 56 => 111 | 82 => 236 | 5 => 5 | 83 => 237 | 84 => 238 | 85 => 239 | 86 => 240 | 87 => 241 | n => n, fun | n => n⟩
theorem Tryz.stabL : Go.Proofs.LaysGt.n8 Tryz.prog Tryz.stabL_ren := {
  mixed := by kernel_rfl
  f8 := Tryz.func88.trans (congrArg some (by kernel_rfl))
  f13 := Tryz.func107.trans (congrArg some (by kernel_rfl))
  f14 := Tryz.func108.trans (congrArg some (by kernel_rfl))
  f15 := Tryz.func109.trans (congrArg some (by kernel_rfl))
  f16 := Tryz.func110.trans (congrArg some (by kernel_rfl))
  f29 := Tryz.func137.trans (congrArg some (by kernel_rfl))
  f30 := Tryz.func138.trans (congrArg some (by kernel_rfl))
  f42 := Tryz.func156.trans (congrArg some (by kernel_rfl))
  f49 := Tryz.func167.trans (congrArg some (by kernel_rfl))
  t0 := Tryz.underlying0
  a0 := Tryz.isAgg0
  z0 := Tryz.sizeOf0
  v0 := Tryz.zeroValue0
  i0 := by kernel_rfl
  t3 := Tryz.underlying3
  a3 := Tryz.isAgg3
  z3 := Tryz.sizeOf3
  v3 := Tryz.zeroValue3
  i3 := by kernel_rfl
  t4 := Tryz.underlying4
  a4 := Tryz.isAgg4
  z4 := Tryz.sizeOf4
  v4 := Tryz.zeroValue4
  i4 := by kernel_rfl
  t5 := Tryz.underlying5
  a5 := Tryz.isAgg5
  z5 := Tryz.sizeOf5
  v5 := Tryz.zeroValue5
  i5 := by kernel_rfl
  t12 := Tryz.underlying12
  a12 := Tryz.isAgg12
  z12 := Tryz.sizeOf12
  v12 := Tryz.zeroValue12
  i12 := by kernel_rfl
  t17 := Tryz.underlying17
  a17 := Tryz.isAgg17
  z17 := Tryz.sizeOf17
  v17 := Tryz.zeroValue17
  i17 := by kernel_rfl
  t20 := Tryz.underlying20
  a20 := Tryz.isAgg20
  z20 := Tryz.sizeOf20
  v20 := Tryz.zeroValue20
  i20 := by kernel_rfl
  t26 := Tryz.underlying134
  a26 := Tryz.isAgg134
  z26 := Tryz.sizeOf134
  v26 := Tryz.zeroValue134
  i26 := by kernel_rfl
  t33 := Tryz.underlying153
  a33 := Tryz.isAgg153
  z33 := Tryz.sizeOf153
  v33 := Tryz.zeroValue153
  i33 := by kernel_rfl
  t34 := Tryz.underlying154
  a34 := Tryz.isAgg154
  z34 := Tryz.sizeOf154
  v34 := Tryz.zeroValue154
  i34 := by kernel_rfl
  t36 := Tryz.underlying156
  a36 := Tryz.isAgg156
  z36 := Tryz.sizeOf156
  v36 := Tryz.zeroValue156
  i36 := by kernel_rfl
  t38 := Tryz.underlying158
  a38 := Tryz.isAgg158
  z38 := Tryz.sizeOf158
  v38 := Tryz.zeroValue158
  i38 := by kernel_rfl
  t42 := Tryz.underlying162
  a42 := Tryz.isAgg162
  z42 := Tryz.sizeOf162
  v42 := Tryz.zeroValue162
  i42 := by kernel_rfl
  t47 := Tryz.underlying112
  a47 := Tryz.isAgg112
  z47 := Tryz.sizeOf112
  v47 := Tryz.zeroValue112
  i47 := by kernel_rfl
  t56 := Tryz.underlying111
  a56 := Tryz.isAgg111
  z56 := Tryz.sizeOf111
  v56 := Tryz.zeroValue111
  i56 := by kernel_rfl
  t82 := Tryz.underlying236
  a82 := Tryz.isAgg236
  z82 := Tryz.sizeOf236
  v82 := Tryz.zeroValue236
  i82 := by kernel_rfl
  t83 := Tryz.underlying237
  a83 := Tryz.isAgg237
  z83 := Tryz.sizeOf237
  v83 := Tryz.zeroValue237
  i83 := by kernel_rfl
  t84 := Tryz.underlying238
  a84 := Tryz.isAgg238
  z84 := Tryz.sizeOf238
  v84 := Tryz.zeroValue238
  i84 := by kernel_rfl
  t85 := Tryz.underlying239
  a85 := Tryz.isAgg239
  z85 := Tryz.sizeOf239
  v85 := Tryz.zeroValue239
  i85 := by kernel_rfl
  t86 := Tryz.underlying240
  a86 := Tryz.isAgg240
  z86 := Tryz.sizeOf240
  v86 := Tryz.zeroValue240
  i86 := by kernel_rfl
  t87 := Tryz.underlying241
  a87 := Tryz.isAgg241
  z87 := Tryz.sizeOf241
  v87 := Tryz.zeroValue241
  i87 := by kernel_rfl
  t89 := Tryz.underlying243
  a89 := Tryz.isAgg243
  z89 := Tryz.sizeOf243
  v89 := Tryz.zeroValue243
  i89 := by kernel_rfl }
end Go.Proofs
set_option linter.unusedSimpArgs false
set_option linter.unusedVariables false
namespace Go.Proofs.YthbfomcmjjnikaaGreat
open Go.RowKit Go.Sort

/-- The least, of equal ones the first. -/
def minFrom (m : Val) (ys : List Val) : Val := ys.foldl (fun m x => if ordV x m < 0 then x else m) m
theorem minFrom_next {m y : Val} {ys : List Val} {j : Nat} (h : ys[j]? = some y) : minFrom m (ys.take (j + 1)) = if ordV y (minFrom m (ys.take j)) < 0 then y else minFrom m (ys.take j) := by
  obtain ⟨h1, rfl⟩ := List.getElem?_eq_some_iff.1 h
  unfold minFrom
  rw [List.take_succ_eq_append_getElem h1, List.foldl_append]
  rfl
theorem order_o (x y : Val) (w : World) : Calls Tryz.prog 103 #[.agg #[.int .i64 x.k, .int .i64 x.n, .string x.s], .agg #[.int .i64 y.k, .int .i64 y.n, .string y.s]] w fun e w' => e = .returned (.int .i64 (ordV x y)) ∧ Below w.heap.size w w' := order_any x y w
theorem box3_cells {w : World} {g : Nat} {y : Val} (h : w.rowIs g 59 3 (box3 y)) : w.cell? ⟨g, 0, none⟩ = some (.int .i64 y.k) ∧ w.cell? ⟨g, 1, none⟩ = some (.int .i64 y.n) ∧ w.cell? ⟨g, 2, none⟩ = some (.string y.s) ∧ w.frozen? ⟨g, 0, none⟩ = false ∧ w.frozen? ⟨g, 1, none⟩ = false ∧ w.frozen? ⟨g, 2, none⟩ = false :=
  ⟨h.cell (by omega), h.cell (by omega), h.cell (by omega), h.frozen 0, h.frozen 1, h.frozen 2⟩

set_option maxHeartbeats 4000000 in
set_option maxRecDepth 100000 in
theorem vmin_any (aa : Option Addr) (ca : Nat) (x0 : Val) (ys : List Val) (w : World) (hl : (x0 :: ys).length ≤ 1048576) (ha : RowAt w aa (x0 :: ys)) :
    Calls Tryz.prog 146 #[.slice aa (x0 :: ys).length ca, .func (.func 103) #[] #[]] w fun e w' => e = .returned (minFrom x0 ys).v ∧ Below w.heap.size w w' := by
  have HA := hide ha
  rcases ha with e | ⟨rb, ro, rfl, hc⟩
  · cases e
  obtain ⟨d0, d1, d2⟩ := hc 0 x0 rfl
  simp only [Nat.zero_mul, Nat.add_zero] at d0 d1 d2
  have hlt := World.block_lt_of_cell? _ _ d0
  have hlt' : rb < w.heap.size := hlt
  clear hc hlt
  have HYL : Hid ((x0 :: ys).length = ys.length + 1) := rfl
  have h1 : ¬ (((x0 :: ys).length : Int) < 1) := by simp only [List.length_cons]; omega
  have h0 : (0 : Int) < ((x0 :: ys).length : Int) := by simp only [List.length_cons]; omega
  generalize hN : (x0 :: ys).length = N at *
  clear hN
  go_enter Tryz.func146, Tryz.ntmps146
  go_wp2_with fail
  go_loopw [6] (fun s wr => ∃ (j : Nat) (m : Val), s = .int .i64 ((j : Int) + 1) ∧ j ≤ ys.length ∧ Hid (m = minFrom x0 (ys.take j)) ∧ wr.rowIs (w.heap.size + 1) 59 3 (box3 m) ∧ wr.rowIs w.heap.size 59 3 (box3 Val.null) ∧ Below w.heap.size w wr) (fun s _ => N - (intOf s).toNat)
  case atStart =>
    refine ⟨0, x0, rfl, Nat.zero_le _, rfl, ?_, ?_, ?_⟩
    · have := box3_alloc (w.alloc (.cells #[.int .i64 0, .int .i64 0, .string ⟨#[]⟩] 59)) x0
      simpa using this
    · exact (box3_alloc w Val.null).alloc _
    · exact below_alloc (below_alloc (Below.refl _ _) _) _
  case round =>
    obtain ⟨j, m, rfl, hj, HM, hrm, hr0, hb⟩ := hrel
    by_cases h8 : j < ys.length
    · have h9 : (j : Int) + 1 < (N : Int) := by have := unhide HYL; omega
      obtain ⟨y, hy⟩ : ∃ y, ys[j]? = some y := ⟨_, List.getElem?_eq_getElem h8⟩
      have HNX := hide (minFrom_next (m := x0) hy)
      rcases (unhide HA).later hb with e | ⟨rb', ro', eb, hc⟩
      · cases e
      injection eb with eb
      injection eb with eb1 eb2
      subst eb1 eb2
      obtain ⟨c0, c1, c2⟩ := hc (j + 1) y (by simpa using hy)
      obtain ⟨b0, b1, b2, f0, f1, f2⟩ := box3_cells hrm
      have HO := hide (order_o y m)
      have HRM := hide hrm
      have HR0 := hide hr0
      have HB := hide hb
      have hszr : w.heap.size + 1 < wr.heap.size := hrm.lt
      rw [← unhide HM] at HNX
      generalize ordV y m = O at *
      have ej : ((j : Int) + 1) = ((j + 1 : Nat) : Int) := by omega
      rw [ej] at h9 ⊢
      clear hc hy hrm hr0 hb ej
      go_upto_region 7 with fail
      go_cut [27] (fun s27 wx => s27 = .bool (decide (O < 0)) ∧ Below wr.heap.size wr wx)
      case first =>
        have k0 := cell_regrown c0
        have k1 := cell_regrown c1
        have k2 := cell_regrown c2
        have k3 := cell_regrown b0
        have k4 := cell_regrown b1
        have k5 := cell_regrown b2
        clear c0 c1 c2 b0 b1 b2
        refine wp_region_quiet_below (by kernel_rfl) (by kernel_rfl) ?_
        repeat (go_big_quiet_step (first
          | (go_at_call 103; exact Calls.regrown_of (unhide HO _))))
        refine wpQuiet_nil ?_
        intro w' hw'
        have hB : Below wr.heap.size wr w' := by obtain ⟨p, rfl⟩ := hw'; exact below_regrown _ _ _
        clear hw'
        go_wp2
        go_meet
        exact ⟨rfl, hB⟩
      case rest =>
        obtain ⟨rfl, hbx⟩ := hcut
        rename World => wx
        replace c0 := cell_later hbx c0
        replace c1 := cell_later hbx c1
        replace c2 := cell_later hbx c2
        have hrm := rowIs_later (unhide HRM) hbx
        have hr0 := rowIs_later (unhide HR0) hbx
        obtain ⟨b0, b1, b2, f0, f1, f2⟩ := box3_cells hrm
        have HRX := hide hrm
        have HR0X := hide hr0
        have HBX := hide (below_step (unhide HB) hbx)
        clear hbx hrm hr0
        by_cases hO : O < 0
        · have e1 : decide (O < 0) = true := decide_eq_true hO
          rw [if_pos hO] at HNX
          rw [e1]
          clear e1
          go_wp2
          go_roundw
          case rel =>
            refine ⟨j + 1, y, by go_num, by omega, (unhide HNX).symm, box3_set (unhide HRX), ?_, ?_⟩
            · exact (((unhide HR0X).setOther (by simp) _).setOther (by simp) _).setOther (by simp) _
            · exact (((unhide HBX).setCell (by simp) _).setCell (by simp) _).setCell (by simp) _
          case measure => have := unhide HYL; first | (simp [intOf]; omega) | (simp only [intOf]; omega)
        · have e1 : decide (O < 0) = false := decide_eq_false hO
          rw [if_neg hO] at HNX
          rw [e1]
          clear e1
          go_wp2
          go_roundw
          case rel => exact ⟨j + 1, m, by go_num, by omega, (unhide HNX).symm, unhide HRX, unhide HR0X, unhide HBX⟩
          case measure => have := unhide HYL; first | (simp [intOf]; omega) | (simp only [intOf]; omega)
    · have h9 : ¬ (j : Int) + 1 < (N : Int) := by have := unhide HYL; omega
      have hj' : j = ys.length := by omega
      have HM2 : Hid (m = minFrom x0 ys) := by show _ = _; rw [unhide HM, hj', List.take_length]
      obtain ⟨b0, b1, b2, _⟩ := box3_cells hrm
      obtain ⟨z0, z1, z2, y0, y1, y2⟩ := box3_cells hr0
      simp only [Val.null] at z0 z1 z2
      have HB := hide hb
      have hszr : w.heap.size + 1 < wr.heap.size := hrm.lt
      clear hrm hr0 hb hj'
      go_wp2
      refine bodyPost_ret (v := m.v) (by simp [results, Tryz.results146, go_sem, Val.v, *]) rfl ⟨by rw [unhide HM2], ?_⟩
      exact (((unhide HB).setCell (by simp) _).setCell (by simp) _).setCell (by simp) _
end Go.Proofs.YthbfomcmjjnikaaGreat

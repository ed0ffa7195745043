import Derived.Test.YtjnggnhgambmkaaGreatVecF
import Derived.Lib.ConvBytes
set_option linter.unusedSimpArgs false
set_option linter.unusedVariables false
namespace Go.Proofs.YtjnggnhgambmkaaGreat
open Go.RowKit Go.Sort

/-- Bytes as a text. -/
def bs (l : List UInt8) : ByteArray := ⟨l.toArray⟩
theorem bs_size (l : List UInt8) : (bs l).size = l.length := by simp [bs, ByteArray.size]
theorem bs_take (l : List UInt8) (n : Nat) (h : n ≤ l.length) : (bs l).extract 0 n = bs (l.take n) := by
  apply ByteArray.ext
  simp [bs, ByteArray.data_extract]
theorem bs_drop (l : List UInt8) (n : Nat) : (bs l).extract n l.length = bs (l.drop n) := by
  apply ByteArray.ext
  simp [bs, ByteArray.data_extract]
  rw [List.take_of_length_le (by simp)]
/-- The reader in block b: what it has not read yet. -/
def Rd (w : World) (b : Nat) (l : List UInt8) : Prop := w.rowIs b 84 1 fun _ => .string (bs l)
/-- New blocks alone, and the reader's, have turned. -/
def Gr (w w' : World) (b : Nat) : Prop := w.grownBy w' (some b)
theorem Gr.refl (w : World) (b : Nat) : Gr w w b := World.grownBy.refl _ _
theorem Gr.trans {a b c : World} {k : Nat} (h : Gr a b k) (g : Gr b c k) : Gr a c k :=
  ⟨g.os.trans h.os, g.tape.trans h.tape, g.output.trans h.output, Nat.le_trans h.size g.size, fun i hi hne => by rw [g.block i (Nat.lt_of_lt_of_le hi h.size) hne, h.block i hi hne]⟩
theorem Gr.of_below {w w' : World} (h : Below w.heap.size w w') (b : Nat) : Gr w w' b := ⟨h.os, h.tape, h.output, h.size, fun i hi _ => h.block i hi⟩
theorem Gr.alloc (w : World) (b : Nat) (o : Obj) : Gr w (w.alloc o) b := World.grownBy_alloc w o _
/-- Damage is thrown. -/
abbrev dmg : Ending := .panicked [{ v := .iface 81 (.agg #[]), recovered := false }]

theorem ensure_yes (w : World) : Calls Tryz.prog 54 #[.bool true] w fun e w' => e = .returned (.tuple #[]) ∧ w' = w := by
  go_enter Tryz.func54, Tryz.ntmps54
  go_wp2
  go_end0
  exact ⟨rfl, rfl⟩
theorem ensure_no (w : World) : Calls Tryz.prog 54 #[.bool false] w fun e w' => e = dmg ∧ w' = w := by
  go_enter Tryz.func54, Tryz.ntmps54
  go_wp2
  exact ⟨rfl, rfl, rfl⟩

theorem ensureF (t : Bool) (h : t = false) (w : World) : Calls Tryz.prog 54 #[.bool t] w fun e w' => e = dmg ∧ w' = w := by subst h; exact ensure_no w
theorem ensureT (t : Bool) (h : t = true) (w : World) : Calls Tryz.prog 54 #[.bool t] w fun e w' => e = .returned (.tuple #[]) ∧ w' = w := by subst h; exact ensure_yes w

theorem Rd.cell {w : World} {b : Nat} {l : List UInt8} (h : Rd w b l) : w.cell? ⟨b, 0, none⟩ = some (.string (bs l)) := World.rowIs.cell h (by decide)
theorem Rd.set {w : World} {b : Nat} {l : List UInt8} (h : Rd w b l) (l' : List UInt8) : Rd (w.setCell ⟨b, 0, none⟩ (.string (bs l'))) b l' :=
  World.rowIs.congr (World.rowIs.set h 0 (.string (bs l'))) (fun i hi => by have : i = 0 := by omega
                                                                            subst this; simp)
theorem Gr.set (w : World) (b : Nat) (v : Value) : Gr w (w.setCell ⟨b, 0, none⟩ v) b := grown_set w b 0 v
set_option maxHeartbeats 1000000 in
theorem take_yes (b n : Nat) (l : List UInt8) (w : World) (h : Rd w b l) (hl : l.length ≤ 140737488355328) (hn : n ≤ l.length) :
    Calls Tryz.prog 70 #[.pointer (some ⟨b, 0, none⟩), .int .i64 n] w fun e w' => e = .returned (.string (bs (l.take n))) ∧ w' = w.setCell ⟨b, 0, none⟩ (.string (bs (l.drop n))) := by
  have hc := h.cell
  have hf := World.rowIs.frozen h 0
  have hs := bs_size l
  have hd : decide ((n : Int) ≤ (l.length : Int)) = true := by simp; omega
  go_enter Tryz.func70, Tryz.ntmps70
  go_wp2_with (go_at_call 54; refine (ensure_yes _).mono ?_; rintro e w' ⟨rfl, rfl⟩)
  go_ret
  exact ⟨by rw [bs_take l n hn]; rfl, by rw [bs_drop]⟩
set_option maxHeartbeats 1000000 in
theorem take_no (b n : Nat) (l : List UInt8) (w : World) (h : Rd w b l) (hl : l.length ≤ 140737488355328) (hn : l.length < n) :
    Calls Tryz.prog 70 #[.pointer (some ⟨b, 0, none⟩), .int .i64 n] w fun e w' => e = dmg ∧ w' = w := by
  have hc := h.cell
  have hf := World.rowIs.frozen h 0
  have hs := bs_size l
  have hd : ¬ (n : Int) ≤ (l.length : Int) := by omega
  go_enter Tryz.func70, Tryz.ntmps70
  go_wp2_with (go_at_call 54; refine (ensure_no _).mono ?_; rintro e w' ⟨rfl, rfl⟩)
  exact ⟨rfl, rfl, rfl⟩
end Go.Proofs.YtjnggnhgambmkaaGreat
set_option linter.unusedSimpArgs false
set_option linter.unusedVariables false
namespace Go.Proofs.YtjnggnhgambmkaaGreat
open Go.RowKit Go.Sort

/-- A number of bytes, the high one first. -/
def beV (l : List UInt8) : Nat := l.foldl (fun a b => a * 256 + b.toNat) 0
theorem beV_snoc (l : List UInt8) (b : UInt8) : beV (l ++ [b]) = beV l * 256 + b.toNat := by simp [beV]
theorem beV_lt (l : List UInt8) : beV l < 256 ^ l.length := by
  generalize hn : l.length = n
  induction n generalizing l with
  | zero => have : l = [] := List.eq_nil_of_length_eq_zero hn; subst this; simp [beV]
  | succ n ih =>
    have hne : l ≠ [] := by intro h; simp [h] at hn
    rw [← List.dropLast_concat_getLast hne, beV_snoc, Nat.pow_succ]
    have := ih l.dropLast (by simp [hn])
    have h2 := (l.getLast hne).toNat_lt
    have : (beV l.dropLast + 1) * 256 ≤ 256 ^ n * 256 := Nat.mul_le_mul_right _ this
    omega
theorem conv_bytes (l : List UInt8) (W : World) : ∃ W2 c, (convert 9 78 (.string (bs l))).run Tryz.prog W = .ok (.slice (some ⟨W.heap.size, 0, none⟩) l.length c) W2 ∧ Below W.heap.size W W2 ∧ ∀ j (x : UInt8), l[j]? = some x → W2.cell? ⟨W.heap.size, j, none⟩ = some (.int .u8 (x.toNat : Int)) := by
  have h := Lib.run_convert_string_bytes (P := Tryz.prog) W 9 78 5 (bs l) (u := .string) Tryz.underlying9 Tryz.underlying78 Tryz.underlying5
  rw [bs_size] at h
  refine ⟨_, _, h, ⟨rfl, rfl, rfl, by rw [Lib.bytesWorld_size]; omega, fun j hj => Lib.bytesWorld_at_old W 5 (bs l) j hj⟩, fun j x hx => ?_⟩
  obtain ⟨hj, e⟩ := List.getElem?_eq_some_iff.1 hx
  rw [Lib.bytesWorld_cell W 5 (bs l) j (by rw [bs_size]; exact hj)]
  simp [bs, List.getD_eq_getElem?_getD, hx]
theorem or_u64 (a b : Nat) (ha : a < 18446744073709551616) (hb : b < 18446744073709551616) : bits .or .u64 (a : Int) (b : Int) = ((a ||| b : Nat) : Int) := by
  have hx : a ||| b < 2 ^ 64 := Nat.or_lt_two_pow (by omega) (by omega)
  have h1 : (BitVec.ofInt 64 (a : Int)).toNat = a := by
    rw [BitVec.ofInt_natCast, BitVec.toNat_ofNat]; exact Nat.mod_eq_of_lt (by omega)
  have h2 : (BitVec.ofInt 64 (b : Int)).toNat = b := by
    rw [BitVec.ofInt_natCast, BitVec.toNat_ofNat]; exact Nat.mod_eq_of_lt (by omega)
  show IntKind.u64.wrap ((BitVec.ofInt 64 (a : Int) ||| BitVec.ofInt 64 (b : Int)).toNat : Int) = _
  rw [BitVec.toNat_or, h1, h2, IntKind.wrap_u64]
  omega
theorem or_add2 {a x r : Nat} (h : a < 2 ^ r) : a ||| x * 2 ^ r = a + x * 2 ^ r := by
  rw [Nat.or_comm, Nat.mul_comm, ← Nat.two_pow_add_eq_or_of_lt h x, Nat.add_comm]
theorem or_byte (X x : Nat) (hX : X < 72057594037927936) (hx : x < 256) : bits .or .u64 (IntKind.u64.wrap ((X : Int) * 256)) (IntKind.u64.wrap (x : Int)) = ((X * 256 + x : Nat) : Int) := by
  have e1 : IntKind.u64.wrap ((X : Int) * 256) = ((X * 2 ^ 8 : Nat) : Int) := by rw [IntKind.wrap_u64]; omega
  have e2 : IntKind.u64.wrap (x : Int) = (x : Int) := by rw [IntKind.wrap_u64]; omega
  rw [e1, e2, or_u64 _ _ (by omega) (by omega), Nat.or_comm, or_add2 (by omega)]
  congr 1; omega
set_option maxHeartbeats 1000000 in
set_option maxRecDepth 100000 in
theorem num_yes (b n : Nat) (l : List UInt8) (w : World) (h : Rd w b l) (hl : l.length ≤ 140737488355328) (hn : n ≤ l.length) (h8 : n ≤ 8) :
    Calls Tryz.prog 53 #[.pointer (some ⟨b, 0, none⟩), .int .i64 n] w fun e w' => e = .returned (.int .u64 (beV (l.take n))) ∧ Rd w' b (l.drop n) ∧ Gr w w' b := by
  have HT := hide (take_yes b n l w h hl hn)
  have hL : (l.take n).length = n := by rw [List.length_take]; omega
  obtain ⟨W2, c, hcv, hb, HC⟩ := conv_bytes (l.take n) (w.setCell ⟨b, 0, none⟩ (.string (bs (l.drop n))))
  rw [hL] at hcv
  have HR : Hid (Rd W2 b (l.drop n) ∧ Gr w W2 b) := ⟨World.rowIs.of_block (h.set (l.drop n)) (hb.block b (h.set (l.drop n)).lt), (Gr.set w b _).trans (Gr.of_below hb b)⟩
  have HB := hide hb
  have HCC := hide HC
  have HL := hide hL
  clear hb HC hL h
  go_enter Tryz.func53, Tryz.ntmps53
  go_wp2_with (go_at_call 70; refine (unhide HT).mono ?_; rintro e w' ⟨rfl, rfl⟩)
  go_loop [5, 13] (fun x i => ∃ k : Nat, k ≤ n ∧ i = .int .i64 (k : Int) ∧ x = .int .u64 (beV ((l.take n).take k))) (fun _ i => n - (intOf i).toNat)
  case atStart => exact ⟨0, Nat.zero_le _, rfl, rfl⟩
  case round =>
    obtain ⟨k, hk, rfl, rfl⟩ := hrel
    by_cases hlt : k < n
    · have h9 : (k : Int) < (n : Int) := by omega
      obtain ⟨x, hx⟩ : ∃ x, (l.take n)[k]? = some x := ⟨_, List.getElem?_eq_getElem (by rw [unhide HL]; exact hlt)⟩
      have hc := unhide HCC k x hx
      simp at hc
      have HN : Hid (beV ((l.take n).take (k + 1)) = beV ((l.take n).take k) * 256 + x.toNat) := by
        obtain ⟨g1, rfl⟩ := List.getElem?_eq_some_iff.1 hx
        show _ = _
        rw [List.take_succ_eq_append_getElem g1, beV_snoc]
      have hbl : beV ((l.take n).take k) < 72057594037927936 := by
        have h1 := beV_lt ((l.take n).take k)
        have h2 : ((l.take n).take k).length ≤ 7 := by rw [List.length_take, unhide HL]; omega
        have h3 : 256 ^ ((l.take n).take k).length ≤ 256 ^ 7 := Nat.pow_le_pow_right (by decide) h2
        have h4 : (256 : Nat) ^ 7 = 72057594037927936 := by decide
        omega
      have HO := hide (or_byte _ x.toNat hbl x.toNat_lt)
      clear hx hbl
      go_wp2
      refine ⟨⟨k + 1, by omega, by go_num, ?_⟩, by simp [intOf]; omega⟩
      exact congrArg (Value.int .u64) ((unhide HO).trans (by rw [unhide HN]))
    · have h9 : ¬ (k : Int) < (n : Int) := by omega
      have e : (l.take n).take k = l.take n := List.take_of_length_le (by rw [unhide HL]; omega)
      have E := hide e
      clear e
      go_wp2
      go_ret
      exact ⟨by rw [unhide E]; rfl, unhide HR⟩
set_option maxHeartbeats 1000000 in
theorem num_no (b n : Nat) (l : List UInt8) (w : World) (h : Rd w b l) (hl : l.length ≤ 140737488355328) (hn : l.length < n) :
    Calls Tryz.prog 53 #[.pointer (some ⟨b, 0, none⟩), .int .i64 n] w fun e w' => e = dmg ∧ w' = w := by
  have HT := hide (take_no b n l w h hl hn)
  go_enter Tryz.func53, Tryz.ntmps53
  go_wp2_with (go_at_call 70; refine (unhide HT).mono ?_; rintro e w' ⟨rfl, rfl⟩)
  exact ⟨rfl, rfl, rfl⟩
end Go.Proofs.YtjnggnhgambmkaaGreat

import Derived.Test.YthbfomcmjjnikaaGreatVecD
import Derived.Lib.ConvBytes
import Derived.Test.YthbfomcmjjnikaaGreatVecA
set_option linter.unusedSimpArgs false
set_option linter.unusedVariables false
namespace Go.Proofs.YthbfomcmjjnikaaGreat
open Go.RowKit Go.Sort

/-- Bytes as a text. -/
def bs (l : List UInt8) : ByteArray := ⟨l.toArray⟩
theorem bs_size (l : List UInt8) : (bs l).size = l.length := by simp [bs, ByteArray.size]
theorem bs_take (l : List UInt8) (n : Nat) (h : n ≤ l.length) : (bs l).extract 0 n = bs (l.take n) := by
  apply ByteArray.ext
  simp [bs, ByteArray.data_extract]
theorem bs_drop (l : List UInt8) (n : Nat) : (bs l).extract n l.length = bs (l.drop n) := by
  apply ByteArray.ext
  simp [bs, ByteArray.data_extract]
  rw [List.take_of_length_le (by simp)]
/-- The reader in block b: what it has not read yet. -/
def Rd (w : World) (b : Nat) (l : List UInt8) : Prop := w.rowIs b 172 1 fun _ => .string (bs l)
/-- New blocks alone, and the reader's, have turned. -/
def Gr (w w' : World) (b : Nat) : Prop := w.grownBy w' (some b)
theorem Gr.refl (w : World) (b : Nat) : Gr w w b := World.grownBy.refl _ _
theorem Gr.trans {a b c : World} {k : Nat} (h : Gr a b k) (g : Gr b c k) : Gr a c k :=
  ⟨g.os.trans h.os, g.tape.trans h.tape, g.output.trans h.output, Nat.le_trans h.size g.size, fun i hi hne => by rw [g.block i (Nat.lt_of_lt_of_le hi h.size) hne, h.block i hi hne]⟩
theorem Gr.of_below {w w' : World} (h : Below w.heap.size w w') (b : Nat) : Gr w w' b := ⟨h.os, h.tape, h.output, h.size, fun i hi _ => h.block i hi⟩
theorem Gr.alloc (w : World) (b : Nat) (o : Obj) : Gr w (w.alloc o) b := World.grownBy_alloc w o _
/-- Damage is thrown. -/
abbrev dmg : Ending := .panicked [{ v := .iface 169 (.agg #[]), recovered := false }]

theorem ensure_yes (w : World) : Calls Tryz.prog 149 #[.bool true] w fun e w' => e = .returned (.tuple #[]) ∧ w' = w := by
  go_enter Tryz.func149, Tryz.ntmps149
  go_wp2
  go_end0
  exact ⟨rfl, rfl⟩
theorem ensure_no (w : World) : Calls Tryz.prog 149 #[.bool false] w fun e w' => e = dmg ∧ w' = w := by
  go_enter Tryz.func149, Tryz.ntmps149
  go_wp2
  exact ⟨rfl, rfl, rfl⟩

theorem ensureF (t : Bool) (h : t = false) (w : World) : Calls Tryz.prog 149 #[.bool t] w fun e w' => e = dmg ∧ w' = w := by subst h; exact ensure_no w
theorem ensureT (t : Bool) (h : t = true) (w : World) : Calls Tryz.prog 149 #[.bool t] w fun e w' => e = .returned (.tuple #[]) ∧ w' = w := by subst h; exact ensure_yes w

theorem Rd.cell {w : World} {b : Nat} {l : List UInt8} (h : Rd w b l) : w.cell? ⟨b, 0, none⟩ = some (.string (bs l)) := World.rowIs.cell h (by decide)
theorem Rd.set {w : World} {b : Nat} {l : List UInt8} (h : Rd w b l) (l' : List UInt8) : Rd (w.setCell ⟨b, 0, none⟩ (.string (bs l'))) b l' :=
  World.rowIs.congr (World.rowIs.set h 0 (.string (bs l'))) (fun i hi => by have : i = 0 := by omega
                                                                            subst this; simp)
theorem Gr.set (w : World) (b : Nat) (v : Value) : Gr w (w.setCell ⟨b, 0, none⟩ v) b := grown_set w b 0 v
set_option maxHeartbeats 1000000 in
theorem take_yes (b n : Nat) (l : List UInt8) (w : World) (h : Rd w b l) (hl : l.length ≤ 140737488355328) (hn : n ≤ l.length) :
    Calls Tryz.prog 160 #[.pointer (some ⟨b, 0, none⟩), .int .i64 n] w fun e w' => e = .returned (.string (bs (l.take n))) ∧ w' = w.setCell ⟨b, 0, none⟩ (.string (bs (l.drop n))) := by
  have hc := h.cell
  have hf := World.rowIs.frozen h 0
  have hs := bs_size l
  have hd : decide ((n : Int) ≤ (l.length : Int)) = true := by simp; omega
  go_enter Tryz.func160, Tryz.ntmps160
  go_wp2_with (go_at_call 149; refine (ensure_yes _).mono ?_; rintro e w' ⟨rfl, rfl⟩)
  go_ret
  exact ⟨by rw [bs_take l n hn]; rfl, by rw [bs_drop]⟩
set_option maxHeartbeats 1000000 in
theorem take_no (b n : Nat) (l : List UInt8) (w : World) (h : Rd w b l) (hl : l.length ≤ 140737488355328) (hn : l.length < n) :
    Calls Tryz.prog 160 #[.pointer (some ⟨b, 0, none⟩), .int .i64 n] w fun e w' => e = dmg ∧ w' = w := by
  have hc := h.cell
  have hf := World.rowIs.frozen h 0
  have hs := bs_size l
  have hd : ¬ (n : Int) ≤ (l.length : Int) := by omega
  go_enter Tryz.func160, Tryz.ntmps160
  go_wp2_with (go_at_call 149; refine (ensure_no _).mono ?_; rintro e w' ⟨rfl, rfl⟩)
  exact ⟨rfl, rfl, rfl⟩
end Go.Proofs.YthbfomcmjjnikaaGreat
set_option linter.unusedSimpArgs false
set_option linter.unusedVariables false
namespace Go.Proofs.YthbfomcmjjnikaaGreat
open Go.RowKit Go.Sort

/-- A number of bytes, the high one first. -/
def beV (l : List UInt8) : Nat := l.foldl (fun a b => a * 256 + b.toNat) 0
theorem beV_snoc (l : List UInt8) (b : UInt8) : beV (l ++ [b]) = beV l * 256 + b.toNat := by simp [beV]
theorem beV_lt (l : List UInt8) : beV l < 256 ^ l.length := by
  generalize hn : l.length = n
  induction n generalizing l with
  | zero => have : l = [] := List.eq_nil_of_length_eq_zero hn; subst this; simp [beV]
  | succ n ih =>
    have hne : l ≠ [] := by intro h; simp [h] at hn
    rw [← List.dropLast_concat_getLast hne, beV_snoc, Nat.pow_succ]
    have := ih l.dropLast (by simp [hn])
    have h2 := (l.getLast hne).toNat_lt
    have : (beV l.dropLast + 1) * 256 ≤ 256 ^ n * 256 := Nat.mul_le_mul_right _ this
    omega
theorem conv_bytes (l : List UInt8) (W : World) : ∃ W2 c, (convert 9 71 (.string (bs l))).run Tryz.prog W = .ok (.slice (some ⟨W.heap.size, 0, none⟩) l.length c) W2 ∧ Below W.heap.size W W2 ∧ ∀ j (x : UInt8), l[j]? = some x → W2.cell? ⟨W.heap.size, j, none⟩ = some (.int .u8 (x.toNat : Int)) := by
  have h := Lib.run_convert_string_bytes (P := Tryz.prog) W 9 71 5 (bs l) (u := .string) Tryz.underlying9 Tryz.underlying71 Tryz.underlying5
  rw [bs_size] at h
  refine ⟨_, _, h, ⟨rfl, rfl, rfl, by rw [Lib.bytesWorld_size]; omega, fun j hj => Lib.bytesWorld_at_old W 5 (bs l) j hj⟩, fun j x hx => ?_⟩
  obtain ⟨hj, e⟩ := List.getElem?_eq_some_iff.1 hx
  rw [Lib.bytesWorld_cell W 5 (bs l) j (by rw [bs_size]; exact hj)]
  simp [bs, List.getD_eq_getElem?_getD, hx]
theorem or_u64 (a b : Nat) (ha : a < 18446744073709551616) (hb : b < 18446744073709551616) : bits .or .u64 (a : Int) (b : Int) = ((a ||| b : Nat) : Int) := by
  have hx : a ||| b < 2 ^ 64 := Nat.or_lt_two_pow (by omega) (by omega)
  have h1 : (BitVec.ofInt 64 (a : Int)).toNat = a := by
    rw [BitVec.ofInt_natCast, BitVec.toNat_ofNat]; exact Nat.mod_eq_of_lt (by omega)
  have h2 : (BitVec.ofInt 64 (b : Int)).toNat = b := by
    rw [BitVec.ofInt_natCast, BitVec.toNat_ofNat]; exact Nat.mod_eq_of_lt (by omega)
  show IntKind.u64.wrap ((BitVec.ofInt 64 (a : Int) ||| BitVec.ofInt 64 (b : Int)).toNat : Int) = _
  rw [BitVec.toNat_or, h1, h2, IntKind.wrap_u64]
  omega
theorem or_add2 {a x r : Nat} (h : a < 2 ^ r) : a ||| x * 2 ^ r = a + x * 2 ^ r := by
  rw [Nat.or_comm, Nat.mul_comm, ← Nat.two_pow_add_eq_or_of_lt h x, Nat.add_comm]
theorem or_byte (X x : Nat) (hX : X < 72057594037927936) (hx : x < 256) : bits .or .u64 (IntKind.u64.wrap ((X : Int) * 256)) (IntKind.u64.wrap (x : Int)) = ((X * 256 + x : Nat) : Int) := by
  have e1 : IntKind.u64.wrap ((X : Int) * 256) = ((X * 2 ^ 8 : Nat) : Int) := by rw [IntKind.wrap_u64]; omega
  have e2 : IntKind.u64.wrap (x : Int) = (x : Int) := by rw [IntKind.wrap_u64]; omega
  rw [e1, e2, or_u64 _ _ (by omega) (by omega), Nat.or_comm, or_add2 (by omega)]
  congr 1; omega
set_option maxHeartbeats 1000000 in
set_option maxRecDepth 100000 in
theorem num_yes (b n : Nat) (l : List UInt8) (w : World) (h : Rd w b l) (hl : l.length ≤ 140737488355328) (hn : n ≤ l.length) (h8 : n ≤ 8) :
    Calls Tryz.prog 148 #[.pointer (some ⟨b, 0, none⟩), .int .i64 n] w fun e w' => e = .returned (.int .u64 (beV (l.take n))) ∧ Rd w' b (l.drop n) ∧ Gr w w' b := by
  have HT := hide (take_yes b n l w h hl hn)
  have hL : (l.take n).length = n := by rw [List.length_take]; omega
  obtain ⟨W2, c, hcv, hb, HC⟩ := conv_bytes (l.take n) (w.setCell ⟨b, 0, none⟩ (.string (bs (l.drop n))))
  rw [hL] at hcv
  have HR : Hid (Rd W2 b (l.drop n) ∧ Gr w W2 b) := ⟨World.rowIs.of_block (h.set (l.drop n)) (hb.block b (h.set (l.drop n)).lt), (Gr.set w b _).trans (Gr.of_below hb b)⟩
  have HB := hide hb
  have HCC := hide HC
  have HL := hide hL
  clear hb HC hL h
  go_enter Tryz.func148, Tryz.ntmps148
  go_wp2_with (go_at_call 160; refine (unhide HT).mono ?_; rintro e w' ⟨rfl, rfl⟩)
  go_loop [5, 13] (fun x i => ∃ k : Nat, k ≤ n ∧ i = .int .i64 (k : Int) ∧ x = .int .u64 (beV ((l.take n).take k))) (fun _ i => n - (intOf i).toNat)
  case atStart => exact ⟨0, Nat.zero_le _, rfl, rfl⟩
  case round =>
    obtain ⟨k, hk, rfl, rfl⟩ := hrel
    by_cases hlt : k < n
    · have h9 : (k : Int) < (n : Int) := by omega
      obtain ⟨x, hx⟩ : ∃ x, (l.take n)[k]? = some x := ⟨_, List.getElem?_eq_getElem (by rw [unhide HL]; exact hlt)⟩
      have hc := unhide HCC k x hx
      simp at hc
      have HN : Hid (beV ((l.take n).take (k + 1)) = beV ((l.take n).take k) * 256 + x.toNat) := by
        obtain ⟨g1, rfl⟩ := List.getElem?_eq_some_iff.1 hx
        show _ = _
        rw [List.take_succ_eq_append_getElem g1, beV_snoc]
      have hbl : beV ((l.take n).take k) < 72057594037927936 := by
        have h1 := beV_lt ((l.take n).take k)
        have h2 : ((l.take n).take k).length ≤ 7 := by rw [List.length_take, unhide HL]; omega
        have h3 : 256 ^ ((l.take n).take k).length ≤ 256 ^ 7 := Nat.pow_le_pow_right (by decide) h2
        have h4 : (256 : Nat) ^ 7 = 72057594037927936 := by decide
        omega
      have HO := hide (or_byte _ x.toNat hbl x.toNat_lt)
      clear hx hbl
      go_wp2
      refine ⟨⟨k + 1, by omega, by go_num, ?_⟩, by simp [intOf]; omega⟩
      exact congrArg (Value.int .u64) ((unhide HO).trans (by rw [unhide HN]))
    · have h9 : ¬ (k : Int) < (n : Int) := by omega
      have e : (l.take n).take k = l.take n := List.take_of_length_le (by rw [unhide HL]; omega)
      have E := hide e
      clear e
      go_wp2
      go_ret
      exact ⟨by rw [unhide E]; rfl, unhide HR⟩
set_option maxHeartbeats 1000000 in
theorem num_no (b n : Nat) (l : List UInt8) (w : World) (h : Rd w b l) (hl : l.length ≤ 140737488355328) (hn : l.length < n) :
    Calls Tryz.prog 148 #[.pointer (some ⟨b, 0, none⟩), .int .i64 n] w fun e w' => e = dmg ∧ w' = w := by
  have HT := hide (take_no b n l w h hl hn)
  go_enter Tryz.func148, Tryz.ntmps148
  go_wp2_with (go_at_call 160; refine (unhide HT).mono ?_; rintro e w' ⟨rfl, rfl⟩)
  exact ⟨rfl, rfl, rfl⟩
end Go.Proofs.YthbfomcmjjnikaaGreat
set_option linter.unusedSimpArgs false
set_option linter.unusedVariables false
namespace Go.Proofs.YthbfomcmjjnikaaGreat
open Go.RowKit Go.Sort

def fit (X : Vc) : Prop := X.nl.length ≤ maxLen ∧ X.ns.length ≤ maxLen ∧ X.ss.length ≤ maxLen
theorem LisAt.get {w : World} {a : Option Addr} {cs : List Value} {k : Nat} {x : Value} (h : LisAt w a cs) (hx : cs[k]? = some x) : ∃ b off, a = some ⟨b, off, none⟩ ∧ w.cell? ⟨b, off + k, none⟩ = some x := by
  rcases h with h | ⟨b, off, ha, h⟩
  · rw [h] at hx; cases hx
  · exact ⟨b, off, ha, h k x hx⟩

def two (w : World) (v1 v2 v3 v4 u1 u2 u3 u4 : Value) : World := (w.alloc (.cells #[v1, v2, v3, v4] 49)).alloc (.cells #[u1, u2, u3, u4] 49)
theorem two_facts {w w' : World} {v1 v2 v3 v4 u1 u2 u3 u4 : Value} (h : Below (two w v1 v2 v3 v4 u1 u2 u3 u4).heap.size (two w v1 v2 v3 v4 u1 u2 u3 u4) w') :
    (w'.cell? ⟨w.heap.size, 1, none⟩ = some v2 ∧ w'.cell? ⟨w.heap.size, 2, none⟩ = some v3 ∧ w'.cell? ⟨w.heap.size, 3, none⟩ = some v4) ∧
    (w'.cell? ⟨w.heap.size + 1, 1, none⟩ = some u2 ∧ w'.cell? ⟨w.heap.size + 1, 2, none⟩ = some u3 ∧ w'.cell? ⟨w.heap.size + 1, 3, none⟩ = some u4) ∧ Below w.heap.size w w' := by
  have hs : (two w v1 v2 v3 v4 u1 u2 u3 u4).heap.size = w.heap.size + 1 + 1 := by simp [two]
  obtain ⟨hc, hf⟩ := bcell h
  refine ⟨⟨?_, ?_, ?_⟩, ⟨?_, ?_, ?_⟩, ?_⟩
  · rw [hc _ _ (by rw [hs]; omega)]; simp [two, go_sem]
  · rw [hc _ _ (by rw [hs]; omega)]; simp [two, go_sem]
  · rw [hc _ _ (by rw [hs]; omega)]; simp [two, go_sem]
  · rw [hc _ _ (by rw [hs]; omega)]; simp [two, go_sem]
  · rw [hc _ _ (by rw [hs]; omega)]; simp [two, go_sem]
  · rw [hc _ _ (by rw [hs]; omega)]; simp [two, go_sem]
  · exact (((Below.refl _ _).alloc (Nat.le_refl _) _).alloc (by simp) _).trans (h.mono (by rw [hs]; omega))

set_option maxHeartbeats 4000000 in
set_option maxRecDepth 100000 in
theorem samevec_same (X : Vc) (p q : Sl) (w : World) (hf : fit X) (hp : VecAt w X p) (hq : VecAt w X q) :
    Calls Tryz.prog 19 #[vecV X p, vecV X q] w fun e w' => e = .returned (.bool true) ∧ Below w.heap.size w w' := by
  rw [vecV_open, vecV_open]
  have HP := hide hp
  have HQ := hide hq
  obtain ⟨l1, l2, l3⟩ := hf
  unfold maxLen at l1 l2 l3
  clear hp hq
  obtain ⟨W2, hW2⟩ : ∃ W2, W2 = two w (.int .i64 X.k) (.slice p.a1 X.nl.length p.c1) (.slice p.a2 X.ns.length p.c2) (.slice p.a3 X.ss.length p.c3) (.int .i64 X.k) (.slice q.a1 X.nl.length q.c1) (.slice q.a2 X.ns.length q.c2) (.slice q.a3 X.ss.length q.c3) := ⟨_, rfl⟩
  have HW2 := hide hW2
  go_enter Tryz.func19, Tryz.ntmps19
  go_wp2_with fail
  go_loopw [43] (fun i wr => ∃ k : Nat, k ≤ X.nl.length ∧ i = .int .i64 k ∧ Below W2.heap.size W2 wr) (fun i _ => X.nl.length - (intOf i).toNat)
  case atStart => exact ⟨0, Nat.zero_le _, rfl, by rw [hW2]; exact Below.refl _ _⟩
  case round =>
    clear hW2
    obtain ⟨k, hkl, rfl, hb⟩ := hrel
    have hb' := hb
    rw [unhide HW2] at hb'
    obtain ⟨⟨v2, v3, v4⟩, ⟨u2, u3, u4⟩, hB⟩ := two_facts hb'
    by_cases h1 : k < X.nl.length
    · obtain ⟨x, hx⟩ : ∃ x, X.nl[k]? = some x := ⟨_, List.getElem?_eq_getElem h1⟩
      obtain ⟨pb, po, ep, cp⟩ := ((unhide HP).later hB).1.get (k := k) (x := .bool x) (by simp [hx])
      obtain ⟨qb, qo, eq, cq⟩ := ((unhide HQ).later hB).1.get (k := k) (x := .bool x) (by simp [hx])
      rw [ep] at v2
      rw [eq] at u2
      have k0 := cell_regrown v2
      have k1 := cell_regrown u2
      have k2 := cell_regrown cp
      have k3 := cell_regrown cq
      have i1 : (k : Int) < (X.nl.length : Int) := by omega
      clear ep eq hx hb'
      go_wp2_with fail
      refine wp_region_quiet_below (by kernel_rfl) (by kernel_rfl) ?_
      repeat (go_big_quiet_step (fail))
      refine wpQuiet_nil ?_
      intro w' hw'
      have hB2 : Below wr.heap.size wr w' := by obtain ⟨p, rfl⟩ := hw'; exact below_regrown _ _ _
      clear hw'
      have hbel' := below_step hb hB2
      go_wp2
      go_roundw
      case rel => exact ⟨k + 1, by omega, by go_num, hbel'⟩
      case measure => simp [intOf]; omega
    · have i1 : ¬ (k : Int) < (X.nl.length : Int) := by omega
      obtain ⟨W3, rfl⟩ : ∃ W3, W3 = wr := ⟨_, rfl⟩
      go_wp2
      clear hb' v2 v3 v4 u2 u3 u4 hB hkl h1 i1
      go_loopw [61] (fun i wr => ∃ k : Nat, k ≤ X.ns.length ∧ i = .int .i64 k ∧ Below W2.heap.size W2 wr) (fun i _ => X.ns.length - (intOf i).toNat)
      case atStart => exact ⟨0, Nat.zero_le _, rfl, hb⟩
      case round =>
        clear hb
        obtain ⟨k, hkl, rfl, hb⟩ := hrel
        have hb' := hb
        rw [unhide HW2] at hb'
        obtain ⟨⟨v2, v3, v4⟩, ⟨u2, u3, u4⟩, hB⟩ := two_facts hb'
        by_cases h1 : k < X.ns.length
        · obtain ⟨x, hx⟩ : ∃ x, X.ns[k]? = some x := ⟨_, List.getElem?_eq_getElem h1⟩
          obtain ⟨pb, po, ep, cp⟩ := ((unhide HP).later hB).2.1.get (k := k) (x := .int .i64 x) (by simp [hx])
          obtain ⟨qb, qo, eq, cq⟩ := ((unhide HQ).later hB).2.1.get (k := k) (x := .int .i64 x) (by simp [hx])
          rw [ep] at v3
          rw [eq] at u3
          have k0 := cell_regrown v3
          have k1 := cell_regrown u3
          have k2 := cell_regrown cp
          have k3 := cell_regrown cq
          have i1 : (k : Int) < (X.ns.length : Int) := by omega
          clear ep eq hx hb'
          go_wp2_with fail
          refine wp_region_quiet_below (by kernel_rfl) (by kernel_rfl) ?_
          repeat (go_big_quiet_step (fail))
          refine wpQuiet_nil ?_
          intro w' hw'
          have hB2 : Below wr.heap.size wr w' := by obtain ⟨p, rfl⟩ := hw'; exact below_regrown _ _ _
          clear hw'
          have hbel' := below_step hb hB2
          go_wp2
          go_roundw
          case rel => exact ⟨k + 1, by omega, by go_num, hbel'⟩
          case measure => simp [intOf]; omega
        · have i1 : ¬ (k : Int) < (X.ns.length : Int) := by omega
          obtain ⟨W3, rfl⟩ : ∃ W3, W3 = wr := ⟨_, rfl⟩
          go_wp2
          clear hb' v2 v3 v4 u2 u3 u4 hB hkl h1 i1
          go_loopw [79] (fun i wr => ∃ k : Nat, k ≤ X.ss.length ∧ i = .int .i64 k ∧ Below W2.heap.size W2 wr) (fun i _ => X.ss.length - (intOf i).toNat)
          case atStart => exact ⟨0, Nat.zero_le _, rfl, hb⟩
          case round =>
            clear hb
            obtain ⟨k, hkl, rfl, hb⟩ := hrel
            have hb' := hb
            rw [unhide HW2] at hb'
            obtain ⟨⟨v2, v3, v4⟩, ⟨u2, u3, u4⟩, hB⟩ := two_facts hb'
            by_cases h1 : k < X.ss.length
            · obtain ⟨x, hx⟩ : ∃ x, X.ss[k]? = some x := ⟨_, List.getElem?_eq_getElem h1⟩
              obtain ⟨pb, po, ep, cp⟩ := ((unhide HP).later hB).2.2.get (k := k) (x := .string x) (by simp [hx])
              obtain ⟨qb, qo, eq, cq⟩ := ((unhide HQ).later hB).2.2.get (k := k) (x := .string x) (by simp [hx])
              rw [ep] at v4
              rw [eq] at u4
              have k0 := cell_regrown v4
              have k1 := cell_regrown u4
              have k2 := cell_regrown cp
              have k3 := cell_regrown cq
              have i1 : (k : Int) < (X.ss.length : Int) := by omega
              clear ep eq hx hb'
              go_wp2_with fail
              refine wp_region_quiet_below (by kernel_rfl) (by kernel_rfl) ?_
              repeat (go_big_quiet_step (fail))
              refine wpQuiet_nil ?_
              intro w' hw'
              have hB2 : Below wr.heap.size wr w' := by obtain ⟨p, rfl⟩ := hw'; exact below_regrown _ _ _
              clear hw'
              have hbel' := below_step hb hB2
              go_wp2
              go_roundw
              case rel => exact ⟨k + 1, by omega, by go_num, hbel'⟩
              case measure => simp [intOf]; omega
            · have i1 : ¬ (k : Int) < (X.ss.length : Int) := by omega
              clear hb'
              go_wp2
              go_ret
              exact ⟨rfl, hB⟩
end Go.Proofs.YthbfomcmjjnikaaGreat
set_option linter.unusedSimpArgs false
set_option linter.unusedVariables false
namespace Go.Proofs.YthbfomcmjjnikaaGreat
open Go.RowKit Go.Sort

section
variable {α : Type}
theorem hitG {p : α → Bool} {ys : List α} {k : Nat} {y : α} (h : ys[k]? = some y) (hp : p y = true) : ys.any p = true :=
  List.any_eq_true.2 ⟨y, List.mem_of_getElem? h, hp⟩
theorem noneG {p : α → Bool} {ys : List α} (h : ∀ i y, i < ys.length → ys[i]? = some y → p y = false) : ys.any p = false := by
  rw [List.any_eq_false]
  intro y hy
  obtain ⟨i, hi⟩ := List.mem_iff_getElem?.1 hy
  rw [h i y (List.getElem?_eq_some_iff.1 hi).1 hi]; simp
theorem stepG {p : α → Bool} {ys : List α} {k : Nat} {y : α} (h : ∀ i y, i < k → ys[i]? = some y → p y = false) (hy : ys[k]? = some y) (hp : p y = false) : ∀ i y, i < k + 1 → ys[i]? = some y → p y = false := by
  intro i z hi hz
  by_cases e : i = k
  · subst e; rw [hy] at hz; cases hz; exact hp
  · exact h i z (by omega) hz
end
theorem zip_get {α β : Type} {xs : List α} {ys : List β} {k : Nat} {a : α} {b : β} (h1 : xs[k]? = some a) (h2 : ys[k]? = some b) : (xs.zip ys)[k]? = some (a, b) := by
  rw [List.getElem?_zip_eq_some]; exact ⟨h1, h2⟩

def badN (p : Bool × Int) : Bool := p.1 && p.2 != 0
def badS (p : Bool × ByteArray) : Bool := p.1 && !p.2.toList.isEmpty
def znN (nl : List Bool) (ns : List Int) : Bool := nl.length == ns.length && !(nl.zip ns).any badN
def znS (nl : List Bool) (ss : List ByteArray) : Bool := nl.length == ss.length && !(nl.zip ss).any badS

set_option maxHeartbeats 2000000 in
theorem zeroN_any (a1 a2 : Option Addr) (c1 c2 : Nat) (nl : List Bool) (ns : List Int) (w : World) (l1 : nl.length ≤ 1048576) (l2 : ns.length ≤ 1048576) (h1 : LisAt w a1 (nl.map .bool)) (h2 : LisAt w a2 (ns.map (.int .i64))) :
    Calls Tryz.prog 96 #[.slice a1 nl.length c1, .slice a2 ns.length c2] w fun e w' => e = .returned (.bool (znN nl ns)) ∧ w' = w := by
  have H1 := hide h1
  have H2 := hide h2
  clear h1 h2
  by_cases e : nl.length = ns.length
  · obtain ⟨n, hn⟩ : ∃ n, n = ns.length := ⟨_, rfl⟩
    have HZ : Hid (znN nl ns = !(nl.zip ns).any badN) := by show _ = _; simp [znN, e]
    have HZL : Hid ((nl.zip ns).length = n) := by show _ = _; simp [e, hn]
    have HE1 : Hid (nl.length = n) := by show _ = _; rw [e, hn]
    have HE2 : Hid (ns.length = n) := hn.symm
    rw [e, ← hn]
    rw [← hn] at l2
    clear e hn l1
    generalize znN nl ns = Z at HZ ⊢
    go_enter Tryz.func96, Tryz.ntmps96
    go_wp2_with fail
    go_loopw [15] (fun i wr => ∃ k : Nat, k ≤ n ∧ i = .int .i64 k ∧ Hid (∀ i y, i < k → (nl.zip ns)[i]? = some y → badN y = false) ∧ wr = w) (fun i _ => n - (intOf i).toNat)
    case atStart => exact ⟨0, Nat.zero_le _, rfl, fun i y h => by omega, rfl⟩
    case round =>
      obtain ⟨k, hk, rfl, HN, rfl⟩ := hrel
      by_cases h1 : k < n
      · obtain ⟨b, hb⟩ : ∃ b, nl[k]? = some b := ⟨_, List.getElem?_eq_getElem (by rw [unhide HE1]; exact h1)⟩
        obtain ⟨m, hm⟩ : ∃ m, ns[k]? = some m := ⟨_, List.getElem?_eq_getElem (by rw [unhide HE2]; exact h1)⟩
        obtain ⟨pb, po, rfl, cp⟩ := (unhide H1).get (k := k) (x := .bool b) (by simp [hb])
        obtain ⟨qb, qo, rfl, cq⟩ := (unhide H2).get (k := k) (x := .int .i64 m) (by simp [hm])
        have HS := hide (zip_get hb hm)
        have i1 : (k : Int) < (n : Int) := by omega
        clear hb hm
        cases b
        · have HP := hide (stepG (unhide HN) (unhide HS) (by simp [badN]))
          go_wp2
          go_roundw
          case rel => exact ⟨k + 1, by omega, by go_num, HP, by first | rfl | trivial⟩
          case measure => simp [intOf]; omega
        · rcases Bool.eq_false_or_eq_true (m != 0) with em | em
          · have HE : Hid (Z = false) := by show _ = _; rw [unhide HZ, hitG (unhide HS) (by simpa [badN] using em)]; rfl
            go_wp2
            go_ret
            exact ⟨by rw [unhide HE]; rfl, rfl⟩
          · have HP := hide (stepG (unhide HN) (unhide HS) (by simpa [badN] using em))
            go_wp2
            go_roundw
            case rel => exact ⟨k + 1, by omega, by go_num, HP, by first | rfl | trivial⟩
            case measure => simp [intOf]; omega
      · have i1 : ¬ (k : Int) < (n : Int) := by omega
        have HE : Hid (Z = true) := by
          show _ = _
          have e : k = n := by omega
          rw [unhide HZ, noneG (by rw [unhide HZL, ← e]; exact unhide HN)]; rfl
        go_wp2
        go_ret
        exact ⟨by rw [unhide HE]; rfl, rfl⟩
  · have HZ : Hid (znN nl ns = false) := by show _ = _; simp [znN, e]
    have e' : ((nl.length : Int) != (ns.length : Int)) = true := by simp; omega
    clear e
    generalize znN nl ns = Z at HZ ⊢
    go_enter Tryz.func96, Tryz.ntmps96
    go_wp2
    go_ret
    exact ⟨by rw [unhide HZ]; rfl, rfl⟩
set_option maxHeartbeats 2000000 in
theorem zeroS_any (a1 a2 : Option Addr) (c1 c2 : Nat) (nl : List Bool) (ns : List ByteArray) (w : World) (l1 : nl.length ≤ 1048576) (l2 : ns.length ≤ 1048576) (h1 : LisAt w a1 (nl.map .bool)) (h2 : LisAt w a2 (ns.map .string)) :
    Calls Tryz.prog 97 #[.slice a1 nl.length c1, .slice a2 ns.length c2] w fun e w' => e = .returned (.bool (znS nl ns)) ∧ w' = w := by
  have H1 := hide h1
  have H2 := hide h2
  clear h1 h2
  by_cases e : nl.length = ns.length
  · obtain ⟨n, hn⟩ : ∃ n, n = ns.length := ⟨_, rfl⟩
    have HZ : Hid (znS nl ns = !(nl.zip ns).any badS) := by show _ = _; simp [znS, e]
    have HZL : Hid ((nl.zip ns).length = n) := by show _ = _; simp [e, hn]
    have HE1 : Hid (nl.length = n) := by show _ = _; rw [e, hn]
    have HE2 : Hid (ns.length = n) := hn.symm
    rw [e, ← hn]
    rw [← hn] at l2
    clear e hn l1
    generalize znS nl ns = Z at HZ ⊢
    go_enter Tryz.func97, Tryz.ntmps97
    go_wp2_with fail
    go_loopw [15] (fun i wr => ∃ k : Nat, k ≤ n ∧ i = .int .i64 k ∧ Hid (∀ i y, i < k → (nl.zip ns)[i]? = some y → badS y = false) ∧ wr = w) (fun i _ => n - (intOf i).toNat)
    case atStart => exact ⟨0, Nat.zero_le _, rfl, fun i y h => by omega, rfl⟩
    case round =>
      obtain ⟨k, hk, rfl, HN, rfl⟩ := hrel
      by_cases h1 : k < n
      · obtain ⟨b, hb⟩ : ∃ b, nl[k]? = some b := ⟨_, List.getElem?_eq_getElem (by rw [unhide HE1]; exact h1)⟩
        obtain ⟨m, hm⟩ : ∃ m, ns[k]? = some m := ⟨_, List.getElem?_eq_getElem (by rw [unhide HE2]; exact h1)⟩
        obtain ⟨pb, po, rfl, cp⟩ := (unhide H1).get (k := k) (x := .bool b) (by simp [hb])
        obtain ⟨qb, qo, rfl, cq⟩ := (unhide H2).get (k := k) (x := .string m) (by simp [hm])
        have HS := hide (zip_get hb hm)
        have i1 : (k : Int) < (n : Int) := by omega
        clear hb hm
        cases b
        · have HP := hide (stepG (unhide HN) (unhide HS) (by simp [badS]))
          go_wp2
          go_roundw
          case rel => exact ⟨k + 1, by omega, by go_num, HP, by first | rfl | trivial⟩
          case measure => simp [intOf]; omega
        · rcases Bool.eq_false_or_eq_true (!m.toList.isEmpty) with em | em
          · have HE : Hid (Z = false) := by show _ = _; rw [unhide HZ, hitG (unhide HS) (by simpa [badS] using em)]; rfl
            go_wp2
            go_ret
            exact ⟨by rw [unhide HE]; rfl, rfl⟩
          · have HP := hide (stepG (unhide HN) (unhide HS) (by simpa [badS] using em))
            go_wp2
            go_roundw
            case rel => exact ⟨k + 1, by omega, by go_num, HP, by first | rfl | trivial⟩
            case measure => simp [intOf]; omega
      · have i1 : ¬ (k : Int) < (n : Int) := by omega
        have HE : Hid (Z = true) := by
          show _ = _
          have e : k = n := by omega
          rw [unhide HZ, noneG (by rw [unhide HZL, ← e]; exact unhide HN)]; rfl
        go_wp2
        go_ret
        exact ⟨by rw [unhide HE]; rfl, rfl⟩
  · have HZ : Hid (znS nl ns = false) := by show _ = _; simp [znS, e]
    have e' : ((nl.length : Int) != (ns.length : Int)) = true := by simp; omega
    clear e
    generalize znS nl ns = Z at HZ ⊢
    go_enter Tryz.func97, Tryz.ntmps97
    go_wp2
    go_ret
    exact ⟨by rw [unhide HZ]; rfl, rfl⟩
end Go.Proofs.YthbfomcmjjnikaaGreat

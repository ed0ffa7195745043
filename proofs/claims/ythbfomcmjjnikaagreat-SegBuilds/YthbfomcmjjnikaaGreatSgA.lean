import Derived.Test.YthbfomcmjjnikaaGreatVecA
import Derived.Deep.WholeRow
set_option linter.unusedSimpArgs false
set_option linter.unusedVariables false
namespace Go.Proofs.YthbfomcmjjnikaaGreat
open Go.RowKit

/-! The checksum: bit by bit, and byte by byte with a table. -/
def stp (c : Nat) : Nat := (c / 2) ^^^ (if c % 2 = 1 then 3988292384 else 0)
def stpN : Nat → Nat → Nat
  | 0, c => c
  | n + 1, c => stpN n (stp c)
theorem stpN_last : ∀ (n c : Nat), stpN (n + 1) c = stp (stpN n c)
  | 0, c => rfl
  | n + 1, c => by
    show stpN (n + 1) (stp c) = stp (stpN n (stp c))
    exact stpN_last n (stp c)
theorem xor_half (a b : Nat) : (a ^^^ b) / 2 = a / 2 ^^^ b / 2 := by
  apply Nat.eq_of_testBit_eq
  intro i
  simp [Nat.testBit_div_two, Nat.testBit_xor]
theorem xor_odd (a b : Nat) : (a ^^^ b) % 2 = (a % 2 + b % 2) % 2 := by
  have h : ∀ n : Nat, n % 2 = (n.testBit 0).toNat := fun n => by rw [Nat.testBit_zero]; rcases Nat.mod_two_eq_zero_or_one n with h | h <;> simp [h]
  rw [h (a ^^^ b), h a, h b, Nat.testBit_xor]
  cases a.testBit 0 <;> cases b.testBit 0 <;> rfl
theorem stp_xor (a b : Nat) : stp (a ^^^ b) = stp a ^^^ stp b := by
  unfold stp
  rw [xor_half, xor_odd]
  rcases Nat.mod_two_eq_zero_or_one a with h | h <;> rcases Nat.mod_two_eq_zero_or_one b with g | g <;> simp [h, g]
  · rw [Nat.xor_assoc]
  · rw [Nat.xor_assoc, Nat.xor_assoc, Nat.xor_comm (b / 2)]
  · apply Nat.eq_of_testBit_eq
    intro i
    simp only [Nat.testBit_xor]
    cases (a / 2).testBit i <;> cases (b / 2).testBit i <;> cases (3988292384).testBit i <;> rfl
theorem stpN_xor : ∀ (n a b : Nat), stpN n (a ^^^ b) = stpN n a ^^^ stpN n b
  | 0, _, _ => rfl
  | n + 1, a, b => by
    show stpN n (stp (a ^^^ b)) = stpN n (stp a) ^^^ stpN n (stp b)
    rw [stp_xor, stpN_xor n]
theorem stp_even (q : Nat) : stp (2 * q) = q := by
  unfold stp
  rw [if_neg (by omega), Nat.xor_zero]
  omega
theorem stpN_high (q : Nat) : stpN 8 (256 * q) = q := by
  show stp (stp (stp (stp (stp (stp (stp (stp (256 * q)))))))) = q
  rw [show 256 * q = 2 * (2 * (2 * (2 * (2 * (2 * (2 * (2 * q))))))) by omega]
  simp only [stp_even]
theorem split_byte (c : Nat) : c = (256 * (c / 256)) ^^^ (c % 256) := by
  apply Nat.eq_of_testBit_eq
  intro i
  have h := Nat.testBit_two_pow_mul_add (c / 256) (i := 8) (b := c % 256) (Nat.mod_lt _ (by decide)) i
  have h2 : (2 ^ 8 * (c / 256)).testBit i = (decide (i ≥ 8) && Nat.testBit (c / 256) (i - 8)) := Nat.testBit_two_pow_mul
  have e : 2 ^ 8 * (c / 256) + c % 256 = c := Nat.div_add_mod c 256
  rw [e] at h
  rw [Nat.testBit_xor, show (256 : Nat) * (c / 256) = 2 ^ 8 * (c / 256) from rfl, h2, h]
  by_cases hi : i < 8
  · have h8 : ¬ 8 ≤ i := by omega
    simp [hi, h8]
  · have h8 : i ≥ 8 := by omega
    have hz : (c % 256).testBit i = false := Nat.testBit_lt_two_pow (Nat.lt_of_lt_of_le (Nat.mod_lt _ (by decide)) (Nat.pow_le_pow_right (by decide) h8 : 2 ^ 8 ≤ 2 ^ i))
    simp [hi, h8, hz]
theorem byte_step (c b : Nat) : stpN 8 (c ^^^ b) = (c / 256) ^^^ stpN 8 ((c % 256) ^^^ b) := by
  conv => lhs; rw [split_byte c, Nat.xor_assoc, stpN_xor, stpN_high]
theorem stp_small {c : Nat} (h : c < 4294967296) : stp c < 4294967296 := by
  unfold stp
  exact Nat.xor_lt_two_pow (n := 32) (by omega) (by split <;> decide)
theorem stpN_small : ∀ (n : Nat) {c : Nat}, c < 4294967296 → stpN n c < 4294967296
  | 0, _, h => h
  | n + 1, _, h => stpN_small n (stp_small h)
def crcL : Nat → List UInt8 → Nat
  | c, [] => c
  | c, b :: l => crcL (stpN 8 (c ^^^ b.toNat)) l
theorem crcL_small : ∀ (l : List UInt8) {c : Nat}, c < 4294967296 → crcL c l < 4294967296
  | [], _, h => h
  | b :: l, _, h => crcL_small l (stpN_small 8 (Nat.xor_lt_two_pow (n := 32) h (Nat.lt_of_lt_of_le b.toNat_lt (by decide))))
theorem crcL_app : ∀ (l m : List UInt8) (c : Nat), crcL c (l ++ m) = crcL (crcL c l) m
  | [], _, _ => rfl
  | b :: l, m, c => crcL_app l m _
theorem crcL_next (s : ByteArray) (k : Nat) (h : k < s.size) (c : Nat) : crcL c (s.data.toList.take (k + 1)) = stpN 8 (crcL c (s.data.toList.take k) ^^^ s[k].toNat) := by
  have hk : k < s.data.toList.length := by simpa using h
  rw [List.take_succ_eq_append_getElem hk, crcL_app]
  rfl
end Go.Proofs.YthbfomcmjjnikaaGreat
set_option linter.unusedSimpArgs false
set_option linter.unusedVariables false
namespace Go.Proofs.YthbfomcmjjnikaaGreat
open Go.RowKit

theorem bit_step (x : Nat) (h : x < 4294967296) : bits .xor .u32 ((x : Int) / 2) (bits .and .u32 (x : Int) 1 * 3988292384 % 4294967296) = ((stp x : Nat) : Int) := by
  have h1 : bits .and .u32 (x : Int) 1 = ((x % 2 : Nat) : Int) := by
    have := u32_and_nat x 1 h (by decide)
    rw [show ((1 : Nat) : Int) = 1 from rfl] at this
    rw [this, Nat.and_one_is_mod]
  have h2 : ((x % 2 : Nat) : Int) * 3988292384 % 4294967296 = (((if x % 2 = 1 then 3988292384 else 0 : Nat)) : Int) := by
    rcases Nat.mod_two_eq_zero_or_one x with e | e <;> simp [e]
  have h3 : (x : Int) / 2 = ((x / 2 : Nat) : Int) := by omega
  rw [h1, h2, h3, u32_xor_nat _ _ (by omega) (by split <;> decide)]
  rfl

structure Tab (c : Array Value) (k : Nat) : Prop where
  size : c.size = 256
  one : c.all (·.oneCell') = true
  at_ : ∀ j, j < k → c[j]? = some (.int .u32 ((stpN 8 j : Nat) : Int))
theorem Tab.zero : Tab Tryz.zeroCells150 0 := ⟨by kernel_rfl, by kernel_rfl, fun j h => by omega⟩
theorem Tab.set {c : Array Value} {k : Nat} (h : Tab c k) (hk : k < 256) : Tab (c.setIfInBounds k (.int .u32 ((stpN 8 k : Nat) : Int))) (k + 1) := by
  have hs := h.size
  refine ⟨by simp [hs], ?_, fun j hj => ?_⟩
  · rw [Array.all_eq_true_iff_forall_mem]
    intro v hv
    rcases Array.mem_or_eq_of_mem_setIfInBounds hv with g | g
    · exact (Array.all_eq_true_iff_forall_mem.1 h.one) v g
    · subst g; rfl
  · by_cases e : j = k
    · subst e
      rw [Array.getElem?_setIfInBounds_self_of_lt (by omega)]
    · rw [Array.getElem?_setIfInBounds_ne (by omega)]
      exact h.at_ j (by omega)

section
variable {ops : Array Oper} {rest : List Oper} {o : Oper} {a : Act} {w w' : World} {Q : Exit → Act → World → Prop} {P : Program}
theorem wpList_load_at (hg : o.guard = none) (t : TypeId) (p : Operand) (hop : o.op = Op.load t p) (ad : Value) (hp : a.eval p = ad) (v : Value) (hrun : (Instr.loadAt t ad).run P w = .ok v w)
    (hK : wpList P ops Q rest (a.put o.dst v) w) : wpList P ops Q (o :: rest) a w := by
  refine wpList_plain hg fun K hK' => ?_
  unfold Oper.wp
  simp only [execOp, hop, hp, Sem.run_bind, hrun, Result.andThen]
  exact hK' _ _ hK
theorem wpList_store_at (hg : o.guard = none) (t : TypeId) (p q : Operand) (hop : o.op = Op.store t p q) (ad v : Value) (hp : a.eval p = ad) (hq : a.eval q = v) (hrun : (Instr.storeAt t ad v).run P w = .ok () w')
    (hK : wpList P ops Q rest (a.put o.dst (.tuple #[])) w') : wpList P ops Q (o :: rest) a w := by
  refine wpList_plain hg fun K hK' => ?_
  unfold Oper.wp
  simp only [execOp, hop, hp, hq, Sem.run_bind, hrun, Result.andThen]
  exact hK' _ _ hK
end
theorem below_setRow {w0 w : World} {n : Nat} (h : Below n w0 w) (c : Array Value) : Below n w0 (w.setRow n c) :=
  h.trans ⟨rfl, rfl, rfl, by simp [World.setRow], fun k hk => by
    simp only [World.setRow, Array.getElem?_modify]
    rw [if_neg (by omega)]⟩
theorem setRow_at {w : World} {g t : Nat} {c0 : Array Value} (h : w.heap[g]? = some (.cells c0 t (0, 0))) (c : Array Value) : (w.setRow g c).heap[g]? = some (.cells c t (0, 0)) := by
  simp [World.setRow, Array.getElem?_modify, h]
theorem loadAt_row {w : World} {g : Nat} {c : Array Value} (h : w.heap[g]? = some (.cells c 150 (0, 0))) (hn : c.size = 256) :
    (Instr.loadAt 150 (.pointer (some ⟨g, 0, none⟩))).run Tryz.prog w = .ok (.agg c) w := by
  simp only [Instr.loadAt, Instr.sureAddr, Sem.run_bind, Sem.run_pure, Result.andThen]
  exact run_loadVar_row (P := Tryz.prog) w g 150 150 c (0, 0) _ h Tryz.underlying150 rfl (by rw [hn]; kernel_rfl)
theorem storeAt_row {w : World} {g : Nat} {c c0 : Array Value} (h : w.heap[g]? = some (.cells c0 150 (0, 0))) (h0 : c0.size = 256) (hn : c.size = 256) (h1 : c.all (·.oneCell') = true) :
    (Instr.storeAt 150 (.pointer (some ⟨g, 0, none⟩)) (.agg c)).run Tryz.prog w = .ok () (w.setRow g c) := by
  simp only [Instr.storeAt, Instr.sureAddr, Sem.run_bind, Sem.run_pure, Result.andThen]
  exact run_storeVar_row (P := Tryz.prog) w g 150 150 c0 c h (by rw [hn]; kernel_rfl) (by omega) h1
set_option maxRecDepth 100000 in
theorem steps_any (w : World) : Calls Tryz.prog 105 #[] w fun e w' => ∃ c, e = .returned (.agg c) ∧ Tab c 256 ∧ Below w.heap.size w w' := by
  go_enter Tryz.func105, Tryz.ntmps105
  go_wp2
  go_loopw [5] (fun s wr => ∃ (k : Nat) (c : Array Value), s = .int .i64 (k : Int) ∧ k ≤ 256 ∧ Hid (Tab c k) ∧ wr = (w.alloc (.cells Tryz.zeroCells150 150)).alloc (.cells c 150)) (fun s _ => 256 - (intOf s).toNat)
  case atStart => exact ⟨0, _, rfl, by omega, Tab.zero, rfl⟩
  case round =>
    obtain ⟨k, c, rfl, hk, HT, rfl⟩ := hrel
    have hsz := (unhide HT).size
    by_cases h1 : k < 256
    · have i1 : (k : Int) < 256 := by omega
      go_wp2
      go_loopw [10, 3] (fun s c' wr => ∃ (i : Nat) (x : Nat), s = .int .i64 (i : Int) ∧ c' = .int .u32 (x : Int) ∧ i ≤ 8 ∧ Hid (x = stpN i k) ∧ wr = (w.alloc (.cells Tryz.zeroCells150 150)).alloc (.cells c 150)) (fun s _ _ => 8 - (intOf s).toNat)
      case atStart => exact ⟨0, k, rfl, rfl, by omega, rfl, rfl⟩
      case round =>
        obtain ⟨i, x, rfl, rfl, hi, HX, rfl⟩ := hrel
        by_cases h2 : i < 8
        · have i2 : (i : Int) < 8 := by omega
          have hx : x < 4294967296 := by rw [unhide HX]; exact stpN_small i (by omega)
          have HB := hide (bit_step x hx)
          have hn : stp x = stpN (i + 1) k := by rw [stpN_last, ← unhide HX]
          have HN := hide hn
          clear hn hsz
          go_wp2
          go_roundw
          case rel => exact ⟨i + 1, stp x, by go_num, by rw [unhide HB], by omega, unhide HN, trivial⟩
          case measure => first | (simp [intOf]; omega) | (simp only [intOf]; omega)
        · have hi8 : i = 8 := by omega
          have i2 : ¬ (i : Int) < 8 := by omega
          subst hi8
          have HT' : Tab (c.setIfInBounds k (.int .u32 (x : Int))) (k + 1) := by rw [unhide HX]; exact (unhide HT).set h1
          have HT2 := hide HT'
          clear HT'
          go_wp2
          refine ⟨⟨k + 1, _, by go_num, by omega, HT2, rfl⟩, ?_⟩
          first | (simp [intOf]; omega) | (simp only [intOf]; omega)
    · have i1 : ¬ (k : Int) < 256 := by omega
      have hk2 : k = 256 := by omega
      subst hk2
      have hT := unhide HT
      have hl1 : ((w.alloc (.cells Tryz.zeroCells150 150)).alloc (.cells c 150)).heap[w.heap.size + 1]? = some (.cells c 150 (0, 0)) := by
        have := heap_alloc_last (w.alloc (.cells Tryz.zeroCells150 150)) (.cells c 150)
        simpa using this
      have hl0 : ((w.alloc (.cells Tryz.zeroCells150 150)).alloc (.cells c 150)).heap[w.heap.size]? = some (.cells Tryz.zeroCells150 150 (0, 0)) := by
        rw [Below.heap_alloc _ _ _ (by simp)]
        exact heap_alloc_last w _
      have hb : Below w.heap.size w ((w.alloc (.cells Tryz.zeroCells150 150)).alloc (.cells c 150)) := ((Below.refl _ _).alloc (Nat.le_refl _) _).alloc (by simp) _
      go_upto_region 13 with fail
      refine wp_region_lit ?_
      refine wpList_load_at rfl 150 (.tmp 1) rfl (.pointer (some ⟨w.heap.size + 1, 0, none⟩)) (by simp [Act.eval]) (.agg c) (loadAt_row hl1 hT.size) ?_
      refine wpList_store_at rfl 150 (.tmp 0) (.tmp 24) rfl (.pointer (some ⟨w.heap.size, 0, none⟩)) (.agg c) (by simp [Act.eval, Act.put]) (by simp [Act.eval, Act.put]) (storeAt_row hl0 (by kernel_rfl) hT.size hT.one) ?_
      have hb2 := below_setRow hb c
      have hl2 := setRow_at hl0 c
      obtain ⟨W2, hW2⟩ : ∃ W2, ((w.alloc (.cells Tryz.zeroCells150 150)).alloc (.cells c 150)).setRow w.heap.size c = W2 := ⟨_, rfl⟩
      rw [hW2] at hb2 hl2 ⊢
      clear hl1 hl0 hb hW2
      refine wpList_nil ?_
      go_wp2
      exact bodyPost_ret (results_cell_row Tryz.results105 _ _ w.heap.size 150 c (0, 0) _ (by simp) hl2 Tryz.underlying150 rfl (by rw [hT.size]; kernel_rfl)) rfl ⟨c, rfl, hT, hb2⟩
end Go.Proofs.YthbfomcmjjnikaaGreat
set_option linter.unusedSimpArgs false
set_option linter.unusedVariables false
namespace Go.Proofs.YthbfomcmjjnikaaGreat
open Go.RowKit

theorem sum_step (c b : Nat) (hc : c < 4294967296) (hb : b < 256) : bits .xor .u8 ((c : Int) % 256) (b : Int) = (((c % 256) ^^^ b : Nat) : Int) ∧ ((c % 256) ^^^ b) < 256 := by
  have h : (c : Int) % 256 = ((c % 256 : Nat) : Int) := by omega
  rw [h]
  exact ⟨u8_xor_nat _ _ (by omega) hb, Nat.xor_lt_two_pow (n := 8) (by omega) hb⟩
theorem sum_step2 (c x : Nat) (hc : c < 4294967296) (hx : x < 4294967296) : bits .xor .u32 ((c : Int) / 256) (x : Int) = ((c / 256 ^^^ x : Nat) : Int) := by
  have h : (c : Int) / 256 = ((c / 256 : Nat) : Int) := by omega
  rw [h]
  exact u32_xor_nat _ _ (by omega) hx

/-- The checksum of a text. -/
def sumB (s : ByteArray) : Nat := 4294967295 ^^^ crcL 4294967295 s.data.toList
theorem sumB_small (s : ByteArray) : sumB s < 4294967296 := Nat.xor_lt_two_pow (n := 32) (by decide) (crcL_small _ (by decide))
theorem sumB_end {s : ByteArray} {x i : Nat} (hx : x < 4294967296) (h : x = crcL 4294967295 (s.data.toList.take i)) (hi : i = s.size) : bits .xor .u32 IntKind.u32.max (x : Int) = ((sumB s : Nat) : Int) := by
  have := u32_xor_nat 4294967295 x (by decide) hx
  rw [show IntKind.u32.max = ((4294967295 : Nat) : Int) from rfl, this, h, hi]
  have e : s.data.toList.take s.size = s.data.toList := List.take_of_length_le (Nat.le_of_eq (by rw [Array.length_toList]; rfl))
  rw [e]
  rfl
set_option maxRecDepth 100000 in
theorem check_any (s : ByteArray) (hs : s.size ≤ 281474976710656) (w : World) : Calls Tryz.prog 80 #[.string s] w fun e w' => e = .returned (.int .u32 (sumB s : Nat)) ∧ Below w.heap.size w w' := by
  go_enter Tryz.func80, Tryz.ntmps80
  go_wp2_with (first | (go_at_call 105; refine (steps_any _).mono ?_; rintro _ w1 ⟨c, rfl, hT, hb1⟩; have hsz := hT.size; have hSt := run_storeCells_new (P := Tryz.prog) w1 150 Tryz.zeroCells150 c (by rw [hT.size]; kernel_rfl) (by rw [hT.size]; kernel_rfl) hT.one))
  have hc : ∀ j, j < 256 → (w1.alloc (.cells c 150)).cell? ⟨w1.heap.size, j, none⟩ = some (.int .u32 ((stpN 8 j : Nat) : Int)) := fun j hj => by
    rw [cell_of_row _ _ j c 150 (0, 0) (heap_alloc_last w1 _)]
    exact hT.at_ j hj
  have hbA := below_alloc hb1 (.cells c 150)
  obtain ⟨wA, hwA⟩ : ∃ wA, w1.alloc (.cells c 150) = wA := ⟨_, rfl⟩
  rw [hwA] at hc hbA ⊢
  have HC := hide hc
  clear hSt hT hsz hwA hb1 hc
  go_loopw [9, 4] (fun k v wr => ∃ (i x : Nat), k = .int .i64 (i : Int) ∧ v = .int .u32 (x : Int) ∧ i ≤ s.size ∧ Hid (x = crcL 4294967295 (s.data.toList.take i)) ∧ wr = wA) (fun k _ _ => s.size - (intOf k).toNat)
  case atStart => exact ⟨0, 4294967295, rfl, rfl, by omega, rfl, rfl⟩
  case round =>
    obtain ⟨i, x, rfl, rfl, hi, HX, rfl⟩ := hrel
    have hx : x < 4294967296 := by rw [unhide HX]; exact crcL_small _ (by decide)
    by_cases h1 : i < s.size
    · have i1 : (i : Int) < (s.size : Int) := by omega
      obtain ⟨hA, hB⟩ := sum_step x s[i].toNat hx s[i].toNat_lt
      have hC := unhide HC _ hB
      have hD := sum_step2 x (stpN 8 ((x % 256) ^^^ s[i].toNat)) hx (stpN_small 8 (by omega))
      have hN : (x / 256 ^^^ stpN 8 (x % 256 ^^^ s[i].toNat)) = crcL 4294967295 (s.data.toList.take (i + 1)) := by
        rw [crcL_next s i h1, ← unhide HX]; exact (byte_step _ _).symm
      have HN := hide hN
      clear hN
      go_wp2
      refine ⟨⟨i + 1, _, by go_num, rfl, by omega, unhide HN, trivial⟩, ?_⟩
      first | (simp [intOf]; omega) | (simp only [intOf]; omega)
    · have i1 : ¬ (i : Int) < (s.size : Int) := by omega
      have he := sumB_end hx (unhide HX) (by omega)
      go_wp2
      go_ret
      exact ⟨rfl, hbA⟩

theorem bit_step2 (x : Nat) (h : x < 4294967296) : bits .and .u32 (x : Int) 1 = ((x % 2 : Nat) : Int) := by
  have := u32_and_nat x 1 h (by decide)
  rw [show ((1 : Nat) : Int) = 1 from rfl] at this
  rw [this, Nat.and_one_is_mod]
theorem stp_odd (x : Nat) (h : x < 4294967296) (ho : x % 2 = 1) : bits .xor .u32 ((x : Int) / 2) 3988292384 = ((stp x : Nat) : Int) := by
  have h3 : (x : Int) / 2 = ((x / 2 : Nat) : Int) := by omega
  have := u32_xor_nat (x / 2) 3988292384 (by omega) (by decide)
  rw [h3, show (3988292384 : Int) = ((3988292384 : Nat) : Int) from rfl, this]
  simp [stp, ho]
theorem stp_ev (x : Nat) (ho : x % 2 = 0) : (x : Int) / 2 = ((stp x : Nat) : Int) := by
  simp [stp, ho]

set_option maxRecDepth 100000 in
theorem crc_any (s : ByteArray) (hs : s.size ≤ 281474976710656) (w : World) : Calls Tryz.prog 38 #[.string s] w fun e w' => e = .returned (.int .u64 (sumB s : Nat)) ∧ w' = w := by
  go_enter Tryz.func38, Tryz.ntmps38
  go_wp2
  go_loopw [4, 3] (fun k v wr => ∃ (i x : Nat), k = .int .i64 (i : Int) ∧ v = .int .u32 (x : Int) ∧ i ≤ s.size ∧ Hid (x = crcL 4294967295 (s.data.toList.take i)) ∧ wr = w) (fun k _ _ => s.size - (intOf k).toNat)
  case atStart => exact ⟨0, 4294967295, rfl, rfl, by omega, rfl, rfl⟩
  case round =>
    obtain ⟨i, x, rfl, rfl, hi, HX, rfl⟩ := hrel
    have hx : x < 4294967296 := by rw [unhide HX]; exact crcL_small _ (by decide)
    by_cases h1 : i < s.size
    · have i1 : (i : Int) < (s.size : Int) := by omega
      have hb := s[i].toNat_lt
      have hA := u32_xor_nat x s[i].toNat hx (by omega)
      have HN := hide (crcL_next s i h1 4294967295)
      have hxx : x ^^^ s[i].toNat < 4294967296 := Nat.xor_lt_two_pow (n := 32) hx (by omega)
      obtain ⟨y0, hy0⟩ : ∃ y, x ^^^ s[i].toNat = y := ⟨_, rfl⟩
      rw [hy0] at hA hxx
      rw [← unhide HX, hy0] at HN
      clear hy0
      go_wp2
      go_loopw [5, 3] (fun k v wr' => ∃ (j y : Nat), k = .int .i64 (j : Int) ∧ v = .int .u32 (y : Int) ∧ j ≤ 8 ∧ Hid (y = stpN j y0) ∧ wr' = wr) (fun k _ _ => 8 - (intOf k).toNat)
      case atStart => exact ⟨0, y0, rfl, by simp, by omega, rfl, rfl⟩
      case round =>
        obtain ⟨j, y, rfl, rfl, hj, HY, rfl⟩ := hrel
        have hy : y < 4294967296 := by rw [unhide HY]; exact stpN_small j hxx
        by_cases h2 : j < 8
        · have i2 : (j : Int) < 8 := by omega
          have hE := bit_step2 y hy
          have HS : Hid (stp y = stpN (j + 1) y0) := by show _ = _; rw [stpN_last, ← unhide HY]
          rcases Nat.mod_two_eq_zero_or_one y with ho | ho
          · rw [ho] at hE
            have hF := stp_ev y ho
            clear ho
            go_wp2
            refine ⟨⟨j + 1, _, by go_num, rfl, by omega, unhide HS, trivial⟩, ?_⟩
            first | (simp [intOf]; omega) | (simp only [intOf]; omega)
          · rw [ho] at hE
            have hF := stp_odd y hy ho
            clear ho
            go_wp2
            refine ⟨⟨j + 1, _, by go_num, rfl, by omega, unhide HS, trivial⟩, ?_⟩
            first | (simp [intOf]; omega) | (simp only [intOf]; omega)
        · have hj8 : j = 8 := by omega
          have i2 : ¬ (j : Int) < 8 := by omega
          subst hj8
          have HZ : Hid (y = crcL 4294967295 (s.data.toList.take (i + 1))) := by show _ = _; rw [unhide HN]; exact unhide HY
          go_wp2
          refine ⟨⟨i + 1, _, by go_num, rfl, by omega, unhide HZ, trivial⟩, ?_⟩
          first | (simp [intOf]; omega) | (simp only [intOf]; omega)
    · have i1 : ¬ (i : Int) < (s.size : Int) := by omega
      have he := sumB_end hx (unhide HX) (by omega)
      go_wp2
      go_ret
      refine ⟨?_, rfl⟩
      show Ending.returned (Value.int .u64 (IntKind.u64.wrap ((sumB s : Nat) : Int))) = _
      rw [IntKind.wrap_u64, Int.emod_eq_of_lt (by omega) (by have := sumB_small s; omega)]
end Go.Proofs.YthbfomcmjjnikaaGreat

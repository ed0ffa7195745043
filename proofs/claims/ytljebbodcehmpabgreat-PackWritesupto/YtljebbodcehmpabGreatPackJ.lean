import Derived.Test.YtljebbodcehmpabGreatPackI
import Derived.Test.YtljebbodcehmpabGreatPackF
set_option linter.unusedSimpArgs false
set_option linter.unusedVariables false
namespace Go.Proofs.YtljebbodcehmpabGreat
open Go.RowKit Go.Sort

/-- Numbers of d bits each, the first in the lowest bits. -/
def total (d : Nat) : List Nat → Nat
  | [] => 0
  | n :: ns => n % 2 ^ d + 2 ^ d * total d ns
theorem total_snoc (d : Nat) (n : Nat) : ∀ ns : List Nat, total d (ns ++ [n]) = total d ns + 2 ^ (d * ns.length) * (n % 2 ^ d)
  | [] => by simp [total]
  | m :: ns => by
    have ih := total_snoc d n ns
    simp only [List.cons_append, total, List.length_cons]
    rw [ih, Nat.mul_add, Nat.mul_succ, Nat.pow_add, Nat.add_assoc, Nat.mul_comm (2 ^ (d * ns.length)) (2 ^ d), Nat.mul_assoc]
theorem total_lt (d : Nat) : ∀ ns : List Nat, total d ns < 2 ^ (d * ns.length)
  | [] => by simp [total]
  | n :: ns => by
    have ih := total_lt d ns
    have h1 : n % 2 ^ d < 2 ^ d := Nat.mod_lt _ (Nat.two_pow_pos d)
    simp only [total, List.length_cons]
    rw [Nat.mul_succ, Nat.pow_add, Nat.mul_comm (2 ^ (d * ns.length)) (2 ^ d)]
    have h2 : 2 ^ d * total d ns + 2 ^ d ≤ 2 ^ d * 2 ^ (d * ns.length) := by
      rw [← Nat.mul_succ]; exact Nat.mul_le_mul_left _ ih
    omega
/-- A byte of a number, the low one first. -/
def byteN (T j : Nat) : Nat := T / 256 ^ j % 256
theorem pow256 (j : Nat) : 256 ^ j = 2 ^ (8 * j) := by rw [Nat.pow_mul]
theorem byte_add {T p x : Nat} (hT : T < 2 ^ p) (hx : x < 2 ^ (8 - p % 8)) (i : Nat) :
    byteN (T + x * 2 ^ p) i = if i = p / 8 then byteN T i + x * 2 ^ (p % 8) else byteN T i := by
  obtain ⟨q, r, hp, hr⟩ : ∃ q r, p = 8 * q + r ∧ r < 8 := ⟨p / 8, p % 8, by omega, by omega⟩
  have e1 : p / 8 = q := by omega
  have e2 : p % 8 = r := by omega
  rw [e2] at hx
  rw [e1, e2]
  clear e1 e2
  have e3 : 2 ^ p = 256 ^ q * 2 ^ r := by rw [hp, Nat.pow_add, pow256]
  rw [e3] at hT ⊢
  have hxr : (x + 1) * 2 ^ r ≤ 256 := by
    have : 2 ^ (8 - r) * 2 ^ r = 256 := by rw [← Nat.pow_add, show 8 - r + r = 8 by omega]
    rw [← this]
    exact Nat.mul_le_mul_right _ hx
  have hq : T / 256 ^ q < 2 ^ r := Nat.div_lt_of_lt_mul hT
  have hpos : ∀ k, 0 < 256 ^ k := fun k => Nat.pow_pos (by decide)
  have e4 : x * (256 ^ q * 2 ^ r) = 256 ^ q * (x * 2 ^ r) := by rw [Nat.mul_left_comm]
  rw [e4]
  unfold byteN
  by_cases h : i = q
  · subst h
    rw [if_pos rfl, Nat.add_mul_div_left _ _ (hpos _)]
    have h2 : 2 ^ r ≤ 256 := by
      have : (2 : Nat) ^ r ≤ 2 ^ 8 := Nat.pow_le_pow_right (by decide) (by omega)
      simpa using this
    rw [Nat.mod_eq_of_lt (by rw [Nat.add_mul] at hxr; omega), Nat.mod_eq_of_lt (by omega)]
  · rw [if_neg h]
    by_cases h1 : i < q
    · obtain ⟨s, rfl⟩ : ∃ s, q = i + 1 + s := ⟨q - i - 1, by omega⟩
      have e5 : 256 ^ (i + 1 + s) * (x * 2 ^ r) = 256 ^ i * (256 * (256 ^ s * (x * 2 ^ r))) := by
        rw [Nat.pow_add, Nat.pow_succ]
        simp only [Nat.mul_assoc]
      rw [e5, Nat.add_mul_div_left _ _ (hpos _), Nat.add_mul_mod_self_left]
    · have h3 : 256 ^ (q + 1) ≤ 256 ^ i := Nat.pow_le_pow_right (by decide) (by omega)
      have h4 : T + 256 ^ q * (x * 2 ^ r) < 256 ^ (q + 1) := by
        have h5 : 256 ^ q * ((x + 1) * 2 ^ r) ≤ 256 ^ q * 256 := Nat.mul_le_mul_left _ hxr
        rw [Nat.add_mul, Nat.one_mul, Nat.mul_add] at h5
        rw [Nat.pow_succ]
        omega
      rw [Nat.div_eq_of_lt (by omega), Nat.div_eq_of_lt (by omega)]
theorem byte_low {T p : Nat} (hT : T < 2 ^ p) : byteN T (p / 8) < 2 ^ (p % 8) := by
  have e3 : 2 ^ p = 256 ^ (p / 8) * 2 ^ (p % 8) := by
    rw [pow256, ← Nat.pow_add]
    congr 1
    omega
  rw [e3] at hT
  exact Nat.lt_of_le_of_lt (Nat.mod_le _ _) (Nat.div_lt_of_lt_mul hT)
theorem or_u8 (a b : Nat) (ha : a < 256) (hb : b < 256) : bits .or .u8 (a : Int) (b : Int) = ((a ||| b : Nat) : Int) := by
  have hx : a ||| b < 2 ^ 8 := Nat.or_lt_two_pow (by omega) (by omega)
  have h1 : (BitVec.ofInt 8 (a : Int)).toNat = a := by
    rw [BitVec.ofInt_natCast, BitVec.toNat_ofNat]; exact Nat.mod_eq_of_lt (by omega)
  have h2 : (BitVec.ofInt 8 (b : Int)).toNat = b := by
    rw [BitVec.ofInt_natCast, BitVec.toNat_ofNat]; exact Nat.mod_eq_of_lt (by omega)
  show IntKind.u8.wrap ((BitVec.ofInt 8 (a : Int) ||| BitVec.ofInt 8 (b : Int)).toNat : Int) = _
  rw [BitVec.toNat_or, h1, h2]
  simp [IntKind.wrap, IntKind.signed, IntKind.bits]
  omega
theorem or_add {a x r : Nat} (h : a < 2 ^ r) : a ||| x * 2 ^ r = a + x * 2 ^ r := by
  rw [Nat.or_comm, Nat.mul_comm, ← Nat.two_pow_add_eq_or_of_lt h x, Nat.add_comm]
/-- The bytes of a number, the low one first. -/
def leB (T m : Nat) : List Int := (List.range m).map fun j => (byteN T j : Int)
theorem leB_len (T m : Nat) : (leB T m).length = m := by simp [leB]
def leF (T : Nat) (j : Nat) : Value := .int .u8 (byteN T j : Int)
theorem byteN_zero (j : Nat) : byteN 0 j = 0 := by simp [byteN]
theorem byteN_lt (T j : Nat) : byteN T j < 256 := Nat.mod_lt _ (by decide)
theorem Tryz.info65 : (Tryz.prog.info? 65).map (fun i => (i.zero, i.size, i.bytes)) = some (some (.int .u64 0), 1, 8) := by kernel_rfl
theorem own_of_le {w : World} {g m T : Nat} (h : w.rowIs g 5 m (leF T)) (hm : m ≤ maxLen) : OwnB w g (.slice (some ⟨g, 0, none⟩) m m) (leB T m) := by
  obtain ⟨cs, hcs, hsz, hcell⟩ := h
  unfold OwnB
  rw [leB_len]
  refine ⟨by simp [leB], .inr ⟨g, m, cs, rfl, Nat.le_refl _, hcs, Nat.le_refl _, hm, by omega, ?_⟩⟩
  have hl : cs.toList.length = m := by rw [Array.length_toList]; exact hsz
  rw [List.take_of_length_le (by omega)]
  refine List.ext_getElem? fun i => ?_
  by_cases hi : i < m
  · have := hcell i hi
    rw [Array.getElem?_toList, this]
    simp [leB, leF, hi]
  · rw [List.getElem?_eq_none (by omega), List.getElem?_eq_none (by simp [leB]; omega)]

set_option maxHeartbeats 4000000 in
set_option maxRecDepth 100000 in
theorem rbits_any (aa : Option Addr) (ca : Nat) (ns : List Nat) (d : Nat) (w : World) (hk : ns.length ≤ 1000000) (hd : d ≤ 64) (hn : ∀ n ∈ ns, n < 18446744073709551616) (ha : LisAt w aa (ns.map fun n : Nat => Value.int .u64 (n : Int))) :
    Calls Tryz.prog 31 #[.slice aa ns.length ca, .int .i64 d] w fun e w' => e = .returned (.string (toB (leB (total d ns) (bytesN ns.length d)))) ∧ Below w.heap.size w w' := by
  obtain ⟨i5, hi5, z50, z51, z52⟩ := info_parts Tryz.info5
  have hm : (ns.length : Int) * (d : Int) ≤ 64000000 := by
    have := Nat.mul_le_mul hk hd
    have e : ((ns.length * d : Nat) : Int) = (ns.length : Int) * (d : Int) := by simp
    omega
  have hm0 : (0 : Int) ≤ (ns.length : Int) * (d : Int) := Int.mul_nonneg (by omega) (by omega)
  have e1 : ((ns.length : Int) * (d : Int) + 7).tdiv 8 = (bytesN ns.length d : Int) := by
    rw [Int.tdiv_eq_ediv_of_nonneg (by omega)]
    unfold bytesN
    simp
  have hN : 8 * bytesN ns.length d ≤ ns.length * d + 7 ∧ ns.length * d ≤ 8 * bytesN ns.length d := by unfold bytesN; omega
  have hNb : bytesN ns.length d ≤ 8000001 := by
    have e : ((ns.length * d : Nat) : Int) = (ns.length : Int) * (d : Int) := by simp
    omega
  have HA := hide ha
  have HN := hide hN
  have HNS := hide hn
  generalize bytesN ns.length d = N at *
  have e1' : ((ns.length : Int) * (d : Int) + 7) / 8 = (N : Int) := by rw [← e1, Int.tdiv_eq_ediv_of_nonneg (by omega)]
  clear ha hN hn
  go_enter Tryz.func31, Tryz.ntmps31
  go_wp2_with (first
    | (at_make; refine wpList_make_row _ rfl (.tmp 15) (.tmp 15) 61 rfl 5 i5 (.int .u8 0) Tryz.underlying61 hi5 z50 z51 rfl .i64 .i64 N (by first | rfl | (simp [go_sem, e1, e1']; done)) (by first | rfl | (simp [go_sem, e1, e1']; done)) (by rw [z52]; omega) (by omega) ?_)
    | fail)
  go_loopw [19] (fun s wr => ∃ i : Nat, i ≤ ns.length ∧ s = .int .i64 (i : Int) ∧ wr.rowIs w.heap.size 5 N (leF (total d (ns.take i))) ∧ Below w.heap.size w wr) (fun s _ => ns.length - (intOf s).toNat)
  case atStart => exact ⟨0, Nat.zero_le _, rfl, (World.rowIs_made w (.int .u8 0) N 5).congr fun j hj => by simp [leF, total, byteN_zero], below_alloc (Below.refl _ _) _⟩
  case round =>
    obtain ⟨i, hi, rfl, hr, hb⟩ := hrel
    by_cases h1 : i < ns.length
    · have i1 : (i : Int) < (ns.length : Int) := by omega
      obtain ⟨n, hn⟩ : ∃ n, ns[i]? = some n := ⟨_, List.getElem?_eq_getElem h1⟩
      have hnb := unhide HNS n (List.mem_of_getElem? hn)
      obtain ⟨qb, qo, ea, cq⟩ := ((unhide HA).later hb).get (k := i) (x := .int .u64 (n : Int)) (by simp [hn])
      subst ea
      have hQ : i * d + d ≤ ns.length * d := by rw [← Nat.succ_mul]; exact Nat.mul_le_mul_right d h1
      have HT : Hid (total d (ns.take (i + 1)) = total d (ns.take i) + 2 ^ (d * i) * (n % 2 ^ d)) := by
        show _ = _
        obtain ⟨hi', rfl⟩ := List.getElem?_eq_some_iff.1 hn
        rw [List.take_succ_eq_append_getElem hi', total_snoc, List.length_take, Nat.min_eq_left (by omega)]
      have HTL : Hid (total d (ns.take i) < 2 ^ (d * i)) := by
        show _ < _
        have := total_lt d (ns.take i)
        rw [List.length_take, Nat.min_eq_left (by omega)] at this
        exact this
      have HR := hide hr
      have HB := hide hb
      have HQ := hide hQ
      generalize total d (ns.take i) = T0 at *
      have hml : ns.length * d ≤ 64000000 := by
        have e : ((ns.length * d : Nat) : Int) = (ns.length : Int) * (d : Int) := by simp
        omega
      obtain ⟨Q, hQe⟩ : ∃ Q, Q = i * d := ⟨_, rfl⟩
      have eq1 : (i : Int) * (d : Int) = (Q : Int) := by rw [hQe]; simp
      have hQb : Q + d ≤ 64000000 := by omega
      have HQE := hide hQe
      have HML := hide hml
      clear hr hb hQ hn hQe hml
      go_wp2_with fail
      go_loopw [8] (fun s wv => ∃ t : Nat, t ≤ d ∧ s = .int .i64 (t : Int) ∧ wv.rowIs w.heap.size 5 N (leF (T0 + n % 2 ^ t * 2 ^ (d * i))) ∧ Below w.heap.size w wv) (fun s _ => d - (intOf s).toNat)
      case atStart => exact ⟨0, Nat.zero_le _, rfl, (unhide HR).congr fun j hj => by simp [Nat.mod_one], unhide HB⟩
      case round =>
        obtain ⟨t, ht, rfl, hr, hb⟩ := hrel
        by_cases h2 : t < d
        · have i2 : (t : Int) < (d : Int) := by omega
          obtain ⟨P, hP⟩ : ∃ P, P = Q + t := ⟨_, rfl⟩
          have eq2 : (Q : Int) + (t : Int) = (P : Int) := by omega
          have hPd : P = d * i + t := by rw [hP, unhide HQE, Nat.mul_comm]
          have hTt : T0 + n % 2 ^ t * 2 ^ (d * i) < 2 ^ P := by
            have h3 : n % 2 ^ t < 2 ^ t := Nat.mod_lt _ (Nat.two_pow_pos t)
            have h4 := unhide HTL
            have h5 : (n % 2 ^ t + 1) * 2 ^ (d * i) ≤ 2 ^ t * 2 ^ (d * i) := Nat.mul_le_mul_right _ h3
            rw [hPd, Nat.pow_add, Nat.mul_comm (2 ^ (d * i)) (2 ^ t)]
            rw [Nat.add_mul, Nat.one_mul] at h5
            omega
          obtain ⟨T, hT⟩ : ∃ T, T = T0 + n % 2 ^ t * 2 ^ (d * i) := ⟨_, rfl⟩
          obtain ⟨bt, hbt⟩ : ∃ bt, bt = n / 2 ^ t % 2 := ⟨_, rfl⟩
          have hbt1 : bt < 2 := by omega
          obtain ⟨q, hq⟩ : ∃ q, q = P / 8 := ⟨_, rfl⟩
          obtain ⟨r, hr8⟩ : ∃ r, r = P % 8 := ⟨_, rfl⟩
          have eq3 : (P : Int).tdiv 8 = (q : Int) := by rw [Int.tdiv_eq_ediv_of_nonneg (by omega)]; omega
          have eq4 : (P : Int).tmod 8 = (r : Int) := by rw [Int.tmod_eq_emod_of_nonneg (by omega)]; omega
          have hqN : q < N := by have := (unhide HN).2; have := unhide HQ; have := unhide HQE; omega
          have hqN' : (q : Int) < (N : Int) := by omega
          have hr7 : (r : Int) < 8 := by omega
          rw [← hT] at hr hTt
          have HNEW : Hid (∀ j, leF (T0 + n % 2 ^ (t + 1) * 2 ^ (d * i)) j = if j = q then .int .u8 ((byteN T q + bt * 2 ^ r : Nat) : Int) else leF T j) := fun j => by
            have e : T0 + n % 2 ^ (t + 1) * 2 ^ (d * i) = T + bt * 2 ^ P := by
              rw [hT, hPd, Nat.mod_pow_succ, ← hbt, Nat.add_mul, Nat.pow_add, Nat.mul_comm (2 ^ t) bt, Nat.mul_assoc, Nat.mul_comm (2 ^ t) (2 ^ (d * i)), Nat.add_assoc]
            unfold leF
            rw [e, byte_add hTt (Nat.lt_of_lt_of_le hbt1 (by have : 2 ^ 1 ≤ 2 ^ (8 - P % 8) := Nat.pow_le_pow_right (by decide) (by omega); simpa using this)), ← hq, ← hr8]
            by_cases hj : j = q
            · rw [if_pos hj, if_pos hj, hj]
            · rw [if_neg hj, if_neg hj]
          have hlow : byteN T q < 2 ^ r := by rw [hq, hr8]; exact byte_low hTt
          have hsv : byteN T q + bt * 2 ^ r < 256 := by
            have h6 : 2 ^ r * 2 ≤ 256 := by have : 2 ^ (r + 1) ≤ 2 ^ 8 := Nat.pow_le_pow_right (by decide) (by omega); rw [Nat.pow_succ] at this; simpa using this
            have h7 : bt * 2 ^ r ≤ 1 * 2 ^ r := Nat.mul_le_mul_right _ (by omega)
            omega
          have eqA : bits BinOp.and IntKind.u64 ((n : Int) / 2 ^ t) 1 = (bt : Int) := by
            have h8 := bits_and_u64_nat (n / 2 ^ t) 1 (Nat.lt_of_le_of_lt (Nat.div_le_self _ _) hnb) (by decide)
            have h9 : ((n / 2 ^ t : Nat) : Int) = (n : Int) / 2 ^ t := by simp
            rw [← h9, show (1 : Int) = ((1 : Nat) : Int) from rfl, h8, Nat.and_one_is_mod, hbt]
          have hor := or_u8 (byteN T q) (bt * 2 ^ r) (by omega) (by omega)
          rw [or_add hlow] at hor
          have c1 := hr.cell hqN
          have f1 := hr.frozen q
          unfold leF at c1
          generalize byteN T q = Bv at *
          generalize hsve : bt * 2 ^ r = sv at *
          have HR2 := hide hr
          have HB2 := hide hb
          have hszv := hr.lt
          clear hr hb hTt hT hbt hq hr8 hP hPd hlow
          have hbt2 : (bt : Int) < 2 := by omega
          have i3 : (t : Int) < 64 := by omega
          have eqS : (bt : Int) * 2 ^ r % 256 = (sv : Int) := by
            have e : ((bt * 2 ^ r : Nat) : Int) = (bt : Int) * 2 ^ r := by simp
            rw [← e, hsve]
            omega
          have HSV := hide hsve
          clear hsve
          go_upto_region 9 with fail
          go_region
          go_wp2
          go_roundw
          case rel =>
            refine ⟨t + 1, by omega, by go_num, (((unhide HR2).set q (.int .u8 ((Bv : Int) + (sv : Int)))).drew).congr fun j hj => ?_, ((unhide HB2).setCell (p := ⟨w.heap.size, q, none⟩) (Nat.le_refl _) _).drew⟩
            rw [unhide HNEW j, Int.natCast_add]
          case measure => first | (simp [intOf]; done) | (simp only [intOf]; omega)
        · have i2 : ¬ (t : Int) < (d : Int) := by omega
          have ht' : t = d := by omega
          have HR2 : Hid (wr.rowIs w.heap.size 5 N (leF (total d (ns.take (i + 1))))) := by
            show World.rowIs _ _ _ _ _
            rw [unhide HT, Nat.mul_comm]
            rw [ht'] at hr
            exact hr
          have HB2 := hide hb
          clear hr hb ht'
          go_wp2
          go_roundw
          case rel => exact ⟨i + 1, by omega, by go_num, unhide HR2, unhide HB2⟩
          case measure => first | (simp [intOf]; done) | (simp only [intOf]; omega)
    · have i1 : ¬ (i : Int) < (ns.length : Int) := by omega
      have hi' : i = ns.length := by omega
      rw [hi', List.take_length] at hr
      have hcv := convert_own (own_of_le hr (by unfold maxLen; omega))
      have HB := hide hb
      clear hb hr hi'
      obtain ⟨BB, hBB⟩ : ∃ BB, Hid (BB = leB (total d ns) N) := ⟨_, rfl⟩
      rw [← unhide hBB] at hcv
      go_wp2
      go_ret
      exact ⟨by rw [← unhide hBB]; rfl, unhide HB⟩
end Go.Proofs.YtljebbodcehmpabGreat

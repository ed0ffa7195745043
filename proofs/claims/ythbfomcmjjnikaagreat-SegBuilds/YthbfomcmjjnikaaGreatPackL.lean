import Derived.Test.YthbfomcmjjnikaaGreatPackF
import Derived.Test.YthbfomcmjjnikaaGreatVecP
import Derived.Test.YthbfomcmjjnikaaGreatPackH
set_option linter.unusedSimpArgs false
set_option linter.unusedVariables false
namespace Go.Proofs.YthbfomcmjjnikaaGreat
open Go.RowKit Go.Sort

theorem own_store {w : World} {base e : Nat} {R n cap i : Nat} {cs : List Value} {u : Value} (h : w.ownsRow base e 1 (.slice (some ⟨R, 0, none⟩) n cap) n cs) (hi : i < n) : (w.setCell ⟨R, i, none⟩ u).ownsRow base e 1 (.slice (some ⟨R, 0, none⟩) n cap) n (cs.set i u) := by
  refine ⟨by rw [List.length_set]; exact h.1, ?_⟩
  rcases h.2 with ⟨e0, _⟩ | ⟨g, cap', cur, ev, hb, hh, h1, h2, h3, h4⟩
  · cases e0
  · cases ev
    refine .inr ⟨R, cap, cur.setIfInBounds i u, rfl, hb, ?_, h1, h2, by simpa using h3, ?_⟩
    · simp [World.setCell, Array.getElem?_modify, hh]
    · rw [← h4]
      simp [List.take_set]
theorem OwnB.store {w : World} {base g cap j : Nat} {zs : List Int} (h : OwnB w base (.slice (some ⟨g, 0, none⟩) zs.length cap) zs) (hj : j < zs.length) (x : Int) : OwnB (w.setCell ⟨g, j, none⟩ (.int .u8 x)) base (.slice (some ⟨g, 0, none⟩) zs.length cap) (zs.set j x) := by
  have := own_store (u := .int .u8 x) h hj
  unfold OwnB
  rw [List.length_set, List.map_set]
  exact this
theorem OwnB.at {w : World} {base g cap j : Nat} {zs : List Int} {y : Int} (h : OwnB w base (.slice (some ⟨g, 0, none⟩) zs.length cap) zs) (hj : zs[j]? = some y) : w.cell? ⟨g, j, none⟩ = some (.int .u8 y) ∧ w.frozen? ⟨g, j, none⟩ = false := by
  refine ⟨?_, ?_⟩
  · have := World.ownsRow.cells h (g := g) rfl j (.int .u8 y) (by simp [hj])
    rw [Addr.add_lit] at this
    simpa using this
  · rcases h.2 with ⟨e0, _⟩ | ⟨g', cap', cur, ev, hb, hh, _⟩
    · cases e0
    · cases ev
      simp [World.frozen?, hh]
theorem Grew.store {w wr : World} {v : Value} {g n cap j : Nat} (h : Grew w wr v (.slice (some ⟨g, 0, none⟩) n cap)) (u : Value) : Grew w (wr.setCell ⟨g, j, none⟩ u) v (.slice (some ⟨g, 0, none⟩) n cap) := by
  refine ⟨⟨h.1.os, h.1.tape, h.1.output, by simp; exact h.1.size, fun i hi hne => ?_⟩, h.2⟩
  rw [Go.Deep.blk_setCell_other]
  · exact h.1.block i hi hne
  · simp
    intro e
    subst e
    rcases h.2 with e | ⟨g', e, hg⟩
    · exact hne e
    · simp [Value.ownBlock] at e; omega
theorem LisAt.grew {w w' : World} {v v' : Value} {a : Option Addr} {cs : List Value} (h : LisAt w a cs) (hg : Grew w w' v v') (hsep : ∀ ad, a = some ad → v.ownBlock ≠ some ad.block) : LisAt w' a cs := by
  rcases h with h | ⟨b, off, ha, h⟩
  · exact .inl h
  · have hs : v.ownBlock ≠ some b := hsep _ ha
    exact .inr ⟨b, off, ha, fun i x hx => by rw [grew_kept hg (World.block_lt_of_cell? _ _ (h i x hx)) hs]; exact h i x hx⟩
theorem leB_zero (N : Nat) : leB 0 N = List.replicate N 0 := by
  refine List.ext_getElem? fun i => ?_
  by_cases hi : i < N
  · simp [leB, hi, byteN_zero]
  · rw [List.getElem?_eq_none (by simp [leB]; omega), List.getElem?_eq_none (by simp; omega)]
theorem leB_at (T N q : Nat) (h : q < N) : (leB T N)[q]? = some (byteN T q : Int) := by simp [leB, h]
theorem leB_set {T P x N : Nat} (hT : T < 2 ^ P) (hx : x < 2 ^ (8 - P % 8)) (zs : List Int) : (zs ++ leB T N).set (zs.length + P / 8) ((byteN T (P / 8) + x * 2 ^ (P % 8) : Nat) : Int) = zs ++ leB (T + x * 2 ^ P) N := by
  rw [List.set_append_right _ _ (by omega), Nat.add_sub_cancel_left]
  congr 1
  refine List.ext_getElem? fun i => ?_
  rw [List.getElem?_set]
  by_cases hi : i < N
  · rw [leB_at (T + x * 2 ^ P) _ _ hi, leB_at T _ _ hi, byte_add hT hx]
    by_cases h : P / 8 = i
    · rw [if_pos h, if_pos (by rw [leB_len]; omega), if_pos h.symm, h]
    · rw [if_neg h, if_neg (Ne.symm h)]
  · rw [List.getElem?_eq_none (l := leB (T + x * 2 ^ P) N) (by rw [leB_len]; omega)]
    by_cases h : P / 8 = i
    · rw [if_pos h, if_neg (by rw [leB_len]; omega)]
    · rw [if_neg h, List.getElem?_eq_none (by rw [leB_len]; omega)]
/-- One piece of a number goes in. -/
theorem piece {T P m L s : Nat} (hm : m < 2 ^ L) (hs : s = min (8 - P % 8) L) (hT : T < 2 ^ P) :
    T + m % 2 ^ (8 - P % 8) * 2 ^ P < 2 ^ (P + s) ∧ T + m % 2 ^ (8 - P % 8) * 2 ^ P + m / 2 ^ s * 2 ^ (P + s) = T + m * 2 ^ P ∧ m / 2 ^ s < 2 ^ (L - s) := by
  have e : m % 2 ^ (8 - P % 8) = m % 2 ^ s := by
    by_cases h : 8 - P % 8 ≤ L
    · rw [hs, Nat.min_eq_left h]
    · rw [hs, Nat.min_eq_right (by omega), Nat.mod_eq_of_lt hm, Nat.mod_eq_of_lt]
      exact Nat.lt_of_lt_of_le hm (Nat.pow_le_pow_right (by decide) (by omega))
  rw [e]
  have h1 : m % 2 ^ s < 2 ^ s := Nat.mod_lt _ (Nat.two_pow_pos s)
  refine ⟨?_, ?_, ?_⟩
  · have h2 : (m % 2 ^ s + 1) * 2 ^ P ≤ 2 ^ s * 2 ^ P := Nat.mul_le_mul_right _ h1
    rw [Nat.pow_add, Nat.mul_comm (2 ^ P) (2 ^ s)]
    rw [Nat.add_mul, Nat.one_mul] at h2
    omega
  · have h3 := Nat.mod_add_div m (2 ^ s)
    rw [Nat.pow_add, Nat.mul_comm (2 ^ P) (2 ^ s), ← Nat.mul_assoc, Nat.add_assoc, ← Nat.add_mul, Nat.mul_comm (m / 2 ^ s) (2 ^ s), h3]
  · refine Nat.div_lt_of_lt_mul ?_
    rw [← Nat.pow_add, show s + (L - s) = L by omega]
    exact hm

set_option maxHeartbeats 4000000 in
set_option maxRecDepth 100000 in
theorem apbits_any (base : Nat) (zs : List Int) (aa : Option Addr) (ca : Nat) (ns : List Nat) (d : Nat) (v : Value) (w : World) (hown : OwnB w base v zs) (hlen : zs.length ≤ 1000000000) (hk : ns.length ≤ 1000000) (hd : d ≤ 64) (hn : ∀ n ∈ ns, n < 2 ^ d) (hbase : base ≤ w.heap.size)
    (ha : LisAt w aa (ns.map fun n : Nat => Value.int .u64 (n : Int))) (hsep : ∀ ad, aa = some ad → v.ownBlock ≠ some ad.block) :
    Calls Tryz.prog 139 #[v, .slice aa ns.length ca, .int .i64 d] w fun e w' => ∃ v', e = .returned v' ∧ OwnB w' base v' (zs ++ leB (total d ns) (bytesN ns.length d)) ∧ Grew w w' v v' := by
  have hN : 8 * bytesN ns.length d ≤ ns.length * d + 7 ∧ ns.length * d ≤ 8 * bytesN ns.length d := by unfold bytesN; omega
  have hml : ns.length * d ≤ 64000000 := Nat.mul_le_mul hk hd
  have HF := hide (fun w' => bytesfor_any ns.length d w' hk hd)
  have HA := hide ha
  have HN := hide hN
  have HNS := hide hn
  have HSEP := hide hsep
  have hvl : ∃ av cv, v = .slice av zs.length cv := by
    rcases hown.2 with ⟨rfl, h0⟩ | ⟨g, cap, cur, rfl, _⟩
    · exact ⟨none, 0, by rw [h0]⟩
    · exact ⟨_, _, rfl⟩
  obtain ⟨av, cv, rfl⟩ := hvl
  have HOWN := hide hown
  generalize bytesN ns.length d = N at *
  have hNb : N ≤ 8000001 := by omega
  clear ha hN hn hsep hown
  go_enter Tryz.func139, Tryz.ntmps139
  go_wp2_with (first
    | (go_at_call 157; refine (unhide HF _).mono ?_; rintro e w1 ⟨rfl, rfl⟩)
    | (at_builtin; refine wpList_append_zeros _ rfl (.tmp 16) (.tmp 20) rfl base (.slice av zs.length cv) N zs rfl rfl (unhide HOWN) (by omega) (by omega) hbase ?_; intro v1 w2 hO1 hG1; replace hO1 := hide hO1; replace hG1 := hide hG1)
    | fail)
  go_loopw [8, 24] (fun s8 s24 wr => ∃ i : Nat, i ≤ ns.length ∧ s24 = .int .i64 (i : Int) ∧ s8 = .int .i64 ((d * i : Nat) : Int) ∧ OwnB wr base v1 (zs ++ leB (total d (ns.take i)) N) ∧ Grew w1 wr (.slice av zs.length cv) v1) (fun _ s _ => ns.length - (intOf s).toNat)
  case atStart => exact ⟨0, Nat.zero_le _, rfl, by simp, by simp only [List.take_zero, total]; rw [leB_zero]; exact unhide hO1, unhide hG1⟩
  case round =>
    obtain ⟨i, hi, rfl, rfl, hO, hG⟩ := hrel
    by_cases h1 : i < ns.length
    · have i1 : (i : Int) < (ns.length : Int) := by omega
      obtain ⟨n, hn⟩ : ∃ n, ns[i]? = some n := ⟨_, List.getElem?_eq_getElem h1⟩
      have hnb := unhide HNS n (List.mem_of_getElem? hn)
      obtain ⟨qb, qo, ea, cq⟩ := ((unhide HA).grew hG (unhide HSEP)).get (k := i) (x := .int .u64 (n : Int)) (by simp [hn])
      subst ea
      have hQ : d * i + d ≤ ns.length * d := by rw [Nat.mul_comm d i, ← Nat.succ_mul]; exact Nat.mul_le_mul_right d h1
      have HT : Hid (total d (ns.take (i + 1)) = total d (ns.take i) + n * 2 ^ (d * i)) := by
        show _ = _
        obtain ⟨hi', rfl⟩ := List.getElem?_eq_some_iff.1 hn
        rw [List.take_succ_eq_append_getElem hi', total_snoc, List.length_take, Nat.min_eq_left (by omega), Nat.mod_eq_of_lt hnb, Nat.mul_comm]
      have HTL : Hid (total d (ns.take i) < 2 ^ (d * i)) := by
        show _ < _
        have := total_lt d (ns.take i)
        rw [List.length_take, Nat.min_eq_left (by omega)] at this
        exact this
      have HO := hide hO
      have HG := hide hG
      have HQ := hide hQ
      have hn64 : n < 18446744073709551616 := Nat.lt_of_lt_of_le hnb (by have : 2 ^ d ≤ 2 ^ 64 := Nat.pow_le_pow_right (by decide) hd; simpa using this)
      generalize total d (ns.take i) = T0 at *
      obtain ⟨T1, HTT⟩ : ∃ T1, Hid (total d (ns.take (i + 1)) = T1) := ⟨_, rfl⟩
      rw [unhide HTT] at HT
      generalize hD : d * i = D at *
      have HD := hide hD
      have HNB := hide hnb
      clear hO hG hQ hn hD hnb
      go_wp2_with fail
      go_loopw [8, 10, 11] (fun s8 s10 s11 wv => ∃ P m L T : Nat, s8 = .int .i64 (P : Int) ∧ s10 = .int .u64 (m : Int) ∧ s11 = .int .i64 (L : Int) ∧ P + L = D + d ∧ Hid (T < 2 ^ P) ∧ Hid (m < 2 ^ L) ∧ Hid (T + m * 2 ^ P = T1) ∧ OwnB wv base v1 (zs ++ leB T N) ∧ Grew w1 wv (.slice av zs.length cv) v1) (fun _ _ s _ => (intOf s).toNat)
      case atStart => exact ⟨D, n, d, T0, rfl, rfl, rfl, rfl, unhide HTL, unhide HNB, (unhide HT).symm, unhide HO, unhide HG⟩
      case round =>
        obtain ⟨P, m, L, T, rfl, rfl, rfl, hPL, HTP, HML, HE, hO, hG⟩ := hrel
        by_cases h2 : 0 < L
        · have i2 : (0 : Int) < (L : Int) := by omega
          have hqN : P / 8 < N := by have := (unhide HN).2; have := unhide HQ; omega
          obtain ⟨g, cap, ev⟩ : ∃ g cap, v1 = .slice (some ⟨g, 0, none⟩) (zs ++ leB T N).length cap := by
            rcases hO.2 with ⟨_, h0⟩ | ⟨g, cap, cur, ev, _⟩
            · rw [List.length_append, leB_len] at h0; omega
            · exact ⟨g, cap, ev⟩
          subst ev
          have hlN : (zs ++ leB T N).length = zs.length + N := by rw [List.length_append, leB_len]
          obtain ⟨q, hq⟩ : ∃ q, q = P / 8 := ⟨_, rfl⟩
          obtain ⟨r, hr⟩ : ∃ r, r = P % 8 := ⟨_, rfl⟩
          obtain ⟨s, hs⟩ : ∃ s, s = min (8 - r) L := ⟨_, rfl⟩
          have eq3 : (P : Int).tdiv 8 = (q : Int) := by rw [Int.tdiv_eq_ediv_of_nonneg (by omega)]; omega
          have eq4 : (P : Int).tmod 8 = (r : Int) := by rw [Int.tmod_eq_emod_of_nonneg (by omega)]; omega
          have eq5 : (8 : Int) - (r : Int) = ((8 - r : Nat) : Int) := by omega
          have hr8 : r < 8 := by omega
          have HPC := hide (piece (T := T) (P := P) (m := m) (L := L) (s := s) (unhide HML) (by rw [hs, hr]) (unhide HTP))
          obtain ⟨x, hx⟩ : ∃ x, x = m % 2 ^ (8 - r) := ⟨_, rfl⟩
          have hxl : x < 2 ^ (8 - r) := by rw [hx]; exact Nat.mod_lt _ (Nat.two_pow_pos _)
          have e256 : 2 ^ (8 - r) * 2 ^ r = 256 := by rw [← Nat.pow_add, show 8 - r + r = 8 by omega]
          have hlow : byteN T q < 2 ^ r := by rw [hq, hr]; exact byte_low (unhide HTP)
          have hsum : byteN T q + x * 2 ^ r < 256 := by
            have h3 : (x + 1) * 2 ^ r ≤ 2 ^ (8 - r) * 2 ^ r := Nat.mul_le_mul_right _ hxl
            rw [e256, Nat.add_mul, Nat.one_mul] at h3
            omega
          have hor := or_u8 (byteN T q) (x * 2 ^ r) (by omega) (by omega)
          rw [or_add hlow] at hor
          obtain ⟨sv, hsv⟩ : ∃ sv, sv = x * 2 ^ r := ⟨_, rfl⟩
          have eqS : IntKind.u64.wrap ((m : Int) * 2 ^ r) % 256 = (sv : Int) := by
            rw [IntKind.wrap_u64]
            have h4 : m * 2 ^ r % 18446744073709551616 % 256 = sv := by
              rw [Nat.mod_mod_of_dvd _ (by decide), hsv, hx, ← e256, Nat.mul_mod_mul_right]
            have h5 : ((m * 2 ^ r : Nat) : Int) = (m : Int) * 2 ^ r := by simp
            rw [← h5]
            omega
          have HSET := hide (leB_set (T := T) (P := P) (x := x) (N := N) (unhide HTP) (by rw [← hr]; exact hxl) zs)
          rw [← hq, ← hr, ← hsv] at HSET
          rw [← hr, ← hx] at HPC
          rw [← hsv] at hor hsum
          obtain ⟨c1, f1⟩ := OwnB.at (j := zs.length + q) (y := (byteN T q : Int)) hO (by rw [List.getElem?_append_right (by omega), Nat.add_sub_cancel_left]; exact leB_at T N q (by omega))
          have HST := hide (OwnB.store hO (j := zs.length + q) (by rw [hlN]; omega) ((byteN T q + sv : Nat) : Int))
          rw [unhide HSET] at HST
          generalize byteN T q = Bv at *
          have hLL : ((zs ++ leB T N).length : Int) = (zs.length : Int) + (N : Int) := by rw [hlN]; simp
          have hqL : (zs.length : Int) + (q : Int) < ((zs ++ leB T N).length : Int) := by rw [hLL]; omega
          have HGS := hide (Grew.store (j := zs.length + q) hG (.int .u8 ((Bv : Int) + (sv : Int))))
          have HLN : Hid ((zs ++ leB (T + x * 2 ^ P) N).length = (zs ++ leB T N).length) := by show _ = _; rw [List.length_append, List.length_append, leB_len, leB_len]
          generalize hLe : (zs ++ leB T N).length = LL at *
          have emin : min ((8 : Int) - (r : Int)) (L : Int) = (s : Int) := by rw [hs]; omega
          have hs64 : (s : Int) ≤ 8 := by rw [hs]; omega
          have hsL : (s : Int) ≤ (L : Int) := by rw [hs]; omega
          have hs0 : 0 < s := by rw [hs]; omega
          have hm64 : (P : Int) ≤ 64000000 := by have := unhide HQ; omega
          have hq8 : (q : Int) ≤ 8000001 := by omega
          have hL8 : (L : Int) ≤ 64000000 := by have := unhide HQ; omega
          have HX := hide hx
          clear hO hG hq hr hs hx hsv hlow hxl e256 hlN hLe hLL
          rw [Int.natCast_add] at HST
          have hz8 : (zs.length : Int) ≤ 1000000000 := by omega
          obtain ⟨KK, hKK⟩ : ∃ KK, zs.length + q = KK := ⟨_, rfl⟩
          rw [hKK] at c1 f1 HST HGS
          have ezk : (zs.length : Int) + (q : Int) = (KK : Int) := by omega
          rw [ezk] at hqL
          clear hKK
          have emin2 : (if L < 8 - r then (L : Int) else ((8 - r : Nat) : Int)) = (s : Int) := by
            rw [← emin]
            split <;> omega
          have HP0 := unhide HPC
          go_upto_region 11 with fail
          try rw [emin2]
          clear emin2 emin eq5 HP0
          go_region
          go_wp2
          go_roundw
          case rel =>
            refine ⟨P + s, m / 2 ^ s, L - s, T + x * 2 ^ P, by go_num, ?_, ?_, by omega, (unhide HPC).1, (unhide HPC).2.2, ?_, World.ownsRow.drew (unhide HST), (unhide HGS).trans (Grew.drew _ _)⟩
            · first | rfl | (congr 1; simp; done) | (simp; done)
            · first | go_num | (congr 1; omega)
            · show _ = _
              rw [(unhide HPC).2.1]
              exact unhide HE
          case measure => first | (simp [intOf]; omega) | (simp only [intOf]; omega)
        · have i2 : ¬ (0 : Int) < (L : Int) := by omega
          have hL0 : L = 0 := by omega
          have HT2 : Hid (T = T1) := by
            show _ = _
            have h3 := unhide HE
            have h4 := unhide HML
            rw [hL0] at h4
            have h5 : m = 0 := by simpa using h4
            rw [h5] at h3
            simpa using h3
          have hPD : P = D + d := by omega
          have HO2 : Hid (OwnB wr base v1 (zs ++ leB T1 N)) := by rw [← unhide HT2]; exact hO
          have HG2 := hide hG
          have HPD := hide hPD
          clear hO hG hL0 hPD
          go_wp2
          go_roundw
          case rel => exact ⟨i + 1, by omega, by go_num, by rw [unhide HPD, Nat.mul_succ, unhide HD], by rw [unhide HTT]; exact unhide HO2, unhide HG2⟩
          case measure => first | (simp [intOf]; omega) | (simp only [intOf]; omega)
    · have i1 : ¬ (i : Int) < (ns.length : Int) := by omega
      have hi' : i = ns.length := by omega
      rw [hi', List.take_length] at hO
      have HO := hide hO
      have HG := hide hG
      clear hO hG hi'
      go_wp2
      go_ret
      exact ⟨_, rfl, unhide HO, unhide HG⟩
end Go.Proofs.YthbfomcmjjnikaaGreat
set_option linter.unusedSimpArgs false
set_option linter.unusedVariables false
namespace Go.Proofs.YthbfomcmjjnikaaGreat
open Go.RowKit Go.Sort

/-- A number of bytes, the low one first. -/
def leV : List UInt8 → Nat
  | [] => 0
  | b :: l => b.toNat + 256 * leV l
theorem leV_byte : ∀ (l : List UInt8) (i : Nat) (h : i < l.length), leV l / 256 ^ i % 256 = (l[i]).toNat
  | b :: l, 0, _ => by have := b.toNat_lt; simp [leV]
  | b :: l, i + 1, h => by
    have h2 := b.toNat_lt
    rw [Nat.pow_succ, Nat.mul_comm (256 ^ i) 256, ← Nat.div_div_eq_div_mul, leV]
    rw [show (b.toNat + 256 * leV l) / 256 = leV l by omega]
    simpa using leV_byte l i (by simpa using h)
/-- A variable of its own block. -/
def At1 (w : World) (b t : Nat) (v : Value) : Prop := w.rowIs b t 1 fun _ => v
theorem At1.cell {w : World} {b t : Nat} {v : Value} (h : At1 w b t v) : w.cell? ⟨b, 0, none⟩ = some v := World.rowIs.cell h (by decide)
theorem At1.set {w : World} {b t : Nat} {v : Value} (h : At1 w b t v) (u : Value) : At1 (w.setCell ⟨b, 0, none⟩ u) b t u :=
  World.rowIs.congr (World.rowIs.set h 0 u) (fun i hi => by have : i = 0 := by omega
                                                            subst this; simp)
theorem At1.gr {w w' : World} {b t k : Nat} {v : Value} (h : At1 w b t v) (hg : Gr w w' k) (hne : b ≠ k) : At1 w' b t v :=
  World.rowIs.of_block h (hg.block b (World.rowIs.lt h) (fun e => hne (by injection e)))
theorem At1.alloc (w : World) (t : Nat) (v : Value) : At1 (w.alloc (.cells #[v] t)) w.heap.size t v := by
  refine World.rowIs_alloc w #[v] t _ ?_
  intro i hi
  have : i = 0 := by simp at hi; omega
  subst this
  rfl
theorem mod_div_pow (x a b : Nat) (h : b ≤ a) : x % 2 ^ a / 2 ^ b = x / 2 ^ b % 2 ^ (a - b) := by
  obtain ⟨c, rfl⟩ : ∃ c, a = b + c := ⟨a - b, by omega⟩
  rw [Nat.pow_add, Nat.mod_mul_right_div_self, Nat.add_sub_cancel_left]
theorem piece_is (T P k s q r : Nat) (hQ : P + k = 8 * q + r) (hr : r + s ≤ 8) :
    T / 256 ^ q % 256 / 2 ^ r % 2 ^ s = T / 2 ^ P / 2 ^ k % 2 ^ s := by
  have e1 : (256 : Nat) ^ q = 2 ^ (8 * q) := by rw [Nat.pow_mul]
  have e2 : (256 : Nat) = 2 ^ 8 := rfl
  rw [e1]
  conv => lhs; lhs; lhs; rhs; rw [e2]
  rw [mod_div_pow _ _ _ (by omega), Nat.div_div_eq_div_mul, ← Nat.pow_add, Nat.div_div_eq_div_mul, ← Nat.pow_add, hQ]
  rw [Nat.mod_mod_of_dvd]
  exact Nat.pow_dvd_pow 2 (by omega)
theorem piece_next (T P k s q r : Nat) (hQ : P + k = 8 * q + r) (hr : r + s ≤ 8) :
    T / 2 ^ P % 2 ^ k + (T / 256 ^ q % 256 / 2 ^ r % 2 ^ s) * 2 ^ k = T / 2 ^ P % 2 ^ (k + s) := by
  rw [piece_is T P k s q r hQ hr, Nat.pow_add, Nat.mod_mul, Nat.mul_comm (2 ^ k)]
theorem and_u8 (a b : Nat) (ha : a < 256) (hb : b < 256) : bits .and .u8 (a : Int) (b : Int) = ((a &&& b : Nat) : Int) := by
  have hx : a &&& b < 2 ^ 8 := Nat.and_lt_two_pow _ (by omega)
  have h1 : (BitVec.ofInt 8 (a : Int)).toNat = a := by
    rw [BitVec.ofInt_natCast, BitVec.toNat_ofNat]; exact Nat.mod_eq_of_lt (by omega)
  have h2 : (BitVec.ofInt 8 (b : Int)).toNat = b := by
    rw [BitVec.ofInt_natCast, BitVec.toNat_ofNat]; exact Nat.mod_eq_of_lt (by omega)
  show IntKind.u8.wrap ((BitVec.ofInt 8 (a : Int) &&& BitVec.ofInt 8 (b : Int)).toNat : Int) = _
  rw [BitVec.toNat_and, h1, h2]
  simp [IntKind.wrap, IntKind.signed, IntKind.bits]
  omega
theorem and_piece (Y r s : Nat) (hY : Y < 256) (hs : s ≤ 8) : bits .and .u8 ((Y : Int) / 2 ^ r) ((2 ^ s - 1) % 256) = ((Y / 2 ^ r % 2 ^ s : Nat) : Int) := by
  have e1 : (Y : Int) / 2 ^ r = ((Y / 2 ^ r : Nat) : Int) := by rw [Int.natCast_ediv, Int.natCast_pow]; rfl
  have h2 : 2 ^ s ≤ 2 ^ 8 := Nat.pow_le_pow_right (by decide) hs
  have h3 := Nat.two_pow_pos s
  have e2 : ((2 : Int) ^ s - 1) % 256 = ((2 ^ s - 1 : Nat) : Int) := by
    have : (2 : Int) ^ s = ((2 ^ s : Nat) : Int) := by rw [Int.natCast_pow]; rfl
    rw [this]; omega
  have h4 : Y / 2 ^ r ≤ Y := Nat.div_le_self _ _
  rw [e1, e2, and_u8 _ _ (by omega) (by omega), Nat.and_two_pow_sub_one_eq_mod]
/-- A byte of a text. -/
theorem idx_bs (t : List UInt8) (q : Nat) (h : q < t.length) (W : World) : (Instr.index 9 (.string (bs t)) (.int .i64 (q : Int))).run Tryz.prog W = .ok (.int .u8 ((leV t / 256 ^ q % 256 : Nat) : Int)) W := by
  rw [run_index_string W 9 (bs t) .i64 q Tryz.underlying9]
  rw [dif_pos ⟨by omega, by rw [bs_size]; omega⟩, leV_byte t q h]
  rfl
theorem At1.below {w w' : World} {b t : Nat} {v : Value} (h : At1 w b t v) (hb : Below w.heap.size w w') : At1 w' b t v :=
  World.rowIs.of_block h (hb.block b (World.rowIs.lt h))
theorem piece_or {T P k s q r Y X Q d : Nat} {Z : Int} (hX : X = T / 2 ^ P % 2 ^ k) (hY : Y = T / 256 ^ q % 256) (hQ : Q = P + k) (hQR : Q = 8 * q + r) (hr : r + s ≤ 8) (hk : k + s ≤ d) (hd : d ≤ 64)
    (hZ : bits .and .u8 ((Y : Int) / 2 ^ r) ((2 ^ s - 1) % 256) = Z) : bits .or .u64 (X : Int) (IntKind.u64.wrap (IntKind.u64.wrap Z * 2 ^ k)) = ((T / 2 ^ P % 2 ^ (k + s) : Nat) : Int) := by
  have hY2 : Y < 256 := by rw [hY]; exact Nat.mod_lt _ (by decide)
  rw [and_piece Y r s hY2 (by omega)] at hZ
  subst hZ
  have e := piece_next T P k s q r (by omega) hr
  rw [← hY, ← hX] at e
  have hlt : T / 2 ^ P % 2 ^ (k + s) < 2 ^ 64 := Nat.lt_of_lt_of_le (Nat.mod_lt _ (Nat.two_pow_pos _)) (Nat.pow_le_pow_right (by decide) (by omega))
  have hXl : X < 2 ^ k := by rw [hX]; exact Nat.mod_lt _ (Nat.two_pow_pos _)
  generalize hz : Y / 2 ^ r % 2 ^ s = z at *
  have hz2 : z < 256 := by
    rw [← hz]
    have h1 : Y / 2 ^ r ≤ Y := Nat.div_le_self _ _
    have h2 : Y / 2 ^ r % 2 ^ s ≤ Y / 2 ^ r := Nat.mod_le _ _
    omega
  have h64 : (2 : Nat) ^ 64 = 18446744073709551616 := by decide
  have e1 : IntKind.u64.wrap (z : Int) = (z : Int) := by rw [IntKind.wrap_u64]; omega
  have e2 : (z : Int) * 2 ^ k = ((z * 2 ^ k : Nat) : Int) := by rw [Int.natCast_mul, Int.natCast_pow]; rfl
  have e3 : IntKind.u64.wrap ((z : Int) * 2 ^ k) = ((z * 2 ^ k : Nat) : Int) := by rw [e2, IntKind.wrap_u64]; omega
  rw [e1, e3, or_u64 _ _ (by omega) (by omega), or_add2 hXl, e]
set_option maxHeartbeats 2000000 in
set_option maxRecDepth 100000 in
theorem bits1_any (A B C P d : Nat) (t : List UInt8) (w : World) (hA : At1 w A 3 (.int .i64 d)) (hB : At1 w B 3 (.int .i64 P)) (hC : At1 w C 9 (.string (bs t))) (hAB : A ≠ B) (hCB : C ≠ B) (hd : d ≤ 64) (hP : P + d ≤ 8 * t.length) (hl : t.length ≤ 1000000) :
    Calls Tryz.prog 177 #[.pointer (some ⟨A, 0, none⟩), .pointer (some ⟨B, 0, none⟩), .pointer (some ⟨C, 0, none⟩)] w fun e w' =>
      e = .returned (.int .u64 ((leV t / 2 ^ P % 2 ^ d : Nat) : Int)) ∧ At1 w' B 3 (.int .i64 ((P + d : Nat) : Int)) ∧ Gr w w' B := by
  have HAA := hide hA
  have HCC := hide hC
  have HBB := hide hB
  have hs := bs_size t
  clear hA hB hC
  go_enter Tryz.func177, Tryz.ntmps177
  go_wp2_with fail
  go_loopw [4, 5] (fun x i wr => ∃ k : Nat, k ≤ d ∧ i = .int .i64 (k : Int) ∧ x = .int .u64 ((leV t / 2 ^ P % 2 ^ k : Nat) : Int) ∧ At1 wr B 3 (.int .i64 ((P + k : Nat) : Int)) ∧ Gr w wr B) (fun _ i _ => d - (intOf i).toNat)
  case atStart => exact ⟨0, Nat.zero_le _, rfl, by simp [Nat.mod_one], unhide HBB, Gr.refl _ _⟩
  case round =>
    obtain ⟨k, hk, rfl, rfl, hb, hg⟩ := hrel
    have cA := ((unhide HAA).gr hg hAB).cell
    have cB := hb.cell
    have fB := World.rowIs.frozen hb 0
    have cC := ((unhide HCC).gr hg hCB).cell
    have HG := hide hg
    have HB := hide hb
    clear hg hb
    by_cases hlt : k < d
    · have h9 : (k : Int) < (d : Int) := by omega
      obtain ⟨Q, hQ⟩ : ∃ Q, Q = P + k := ⟨_, rfl⟩
      obtain ⟨X, hX⟩ : ∃ X, X = leV t / 2 ^ P % 2 ^ k := ⟨_, rfl⟩
      obtain ⟨q, r, hqr, hr8⟩ : ∃ q r, Q = 8 * q + r ∧ r < 8 := ⟨Q / 8, Q % 8, by omega, by omega⟩
      obtain ⟨Y, hY, hix⟩ : ∃ Y : Nat, Y = leV t / 256 ^ q % 256 ∧ ∀ W, (Instr.index 9 (.string (bs t)) (.int .i64 (q : Int))).run Tryz.prog W = .ok (.int .u8 (Y : Int)) W := ⟨_, rfl, idx_bs t q (by omega)⟩
      have hY2 : Y < 256 := by rw [hY]; exact Nat.mod_lt _ (by decide)
      have HY := hide hY
      have hqb : (q : Int) ≤ 1000000 := by omega
      have hqw : IntKind.i64.wrap (q : Int) = (q : Int) := by rw [IntKind.wrap_i64]; omega
      clear hY
      have e1 : (Q : Int) / 8 = (q : Int) := by omega
      have e2 : (Q : Int) % 8 = (r : Int) := by omega
      rw [← hQ] at cB
      rw [← hX]
      have HX := hide hX
      have HQ := hide hQ
      clear hX hQ hP
      have HQR := hide hqr
      clear hqr
      obtain ⟨s1, hs1⟩ : ∃ s1, s1 = 8 - r := ⟨_, rfl⟩
      obtain ⟨s2, hs2⟩ : ∃ s2, s2 = d - k := ⟨_, rfl⟩
      have e3 : 8 - (r : Int) = (s1 : Int) := by omega
      have e4 : (d : Int) - (k : Int) = (s2 : Int) := by omega
      have HS1 := hide hs1
      have HS2 := hide hs2
      clear hs1 hs2
      by_cases hm : (s1 : Int) ≤ (s2 : Int)
      · go_wp2_with fail
        go_quiet (fail)
        generalize hZ : bits BinOp.and IntKind.u8 ((Y : Int) / 2 ^ r) ((2 ^ s1 - 1) % 256) = Z
        replace hZ := hide hZ
        go_wp2_with fail
        have g1 := unhide HS1
        have g2 := unhide HS2
        have g3 := unhide HQ
        have hbn : Below wr.heap.size wr (wr.drewN nq) := below_drewN (Below.refl _ _) nq
        refine ⟨⟨k + s1, by omega, by go_num, congrArg (Value.int .u64) (piece_or (unhide HX) (unhide HY) g3 (unhide HQR) (by omega) (by omega) hd (unhide hZ)), ?_, ((unhide HG).trans (Gr.of_below hbn B)).trans (Gr.set _ _ _)⟩, by simp [intOf]; omega⟩
        have e5 : ((P + (k + s1) : Nat) : Int) = (Q : Int) + (s1 : Int) := by omega
        rw [e5]
        exact ((unhide HB).below hbn).set _
      · go_wp2_with fail
        go_quiet (fail)
        generalize hZ : bits BinOp.and IntKind.u8 ((Y : Int) / 2 ^ r) ((2 ^ s2 - 1) % 256) = Z
        replace hZ := hide hZ
        go_wp2_with fail
        have g1 := unhide HS1
        have g2 := unhide HS2
        have g3 := unhide HQ
        have hbn : Below wr.heap.size wr (wr.drewN nq) := below_drewN (Below.refl _ _) nq
        refine ⟨⟨k + s2, by omega, by go_num, congrArg (Value.int .u64) (piece_or (unhide HX) (unhide HY) g3 (unhide HQR) (by omega) (by omega) hd (unhide hZ)), ?_, ((unhide HG).trans (Gr.of_below hbn B)).trans (Gr.set _ _ _)⟩, by simp [intOf]; omega⟩
        have e5 : ((P + (k + s2) : Nat) : Int) = (Q : Int) + (s2 : Int) := by omega
        rw [e5]
        exact ((unhide HB).below hbn).set _
    · have h9 : ¬ (k : Int) < (d : Int) := by omega
      have ek : k = d := by omega
      subst ek
      go_wp2
      go_ret
      exact ⟨rfl, unhide HB, unhide HG⟩
end Go.Proofs.YthbfomcmjjnikaaGreat
set_option linter.unusedSimpArgs false
set_option linter.unusedVariables false
namespace Go.Proofs.YthbfomcmjjnikaaGreat
open Go.RowKit Go.Sort

/-- The document's reader: what it has not read yet, and whether it went wrong. -/
def brF (l : List UInt8) (bad : Bool) : Nat → Value
  | 0 => .string (bs l)
  | _ => .bool bad
def Br (w : World) (b : Nat) (l : List UInt8) (bad : Bool) : Prop := w.rowIs b 83 2 (brF l bad)
def takeR (l : List UInt8) (bad : Bool) (n : Nat) : List UInt8 × List UInt8 × Bool := if bad = true ∨ l.length < n then ([], l, true) else (l.take n, l.drop n, false)
theorem Br.facts {w : World} {b : Nat} {l : List UInt8} {bad : Bool} (h : Br w b l bad) : w.cell? ⟨b, 0, none⟩ = some (.string (bs l)) ∧ w.cell? ⟨b, 1, none⟩ = some (.bool bad) ∧ w.frozen? ⟨b, 0, none⟩ = false ∧ w.frozen? ⟨b, 1, none⟩ = false :=
  ⟨World.rowIs.cell h (i := 0) (by omega), World.rowIs.cell h (i := 1) (by omega), World.rowIs.frozen h 0, World.rowIs.frozen h 1⟩
theorem Br.ne {w : World} {b : Nat} {l : List UInt8} {bad : Bool} (h : Br w b l bad) : b < w.heap.size := World.rowIs.lt h
theorem Br.alloc {w : World} {b : Nat} {l : List UInt8} {bad : Bool} (h : Br w b l bad) (o : Obj) : Br (w.alloc o) b l bad := World.rowIs.alloc h o
theorem Br.bad {w : World} {b : Nat} {l : List UInt8} {bad : Bool} (h : Br w b l bad) (x : Bool) : Br (w.setCell ⟨b, 1, none⟩ (.bool x)) b l x :=
  World.rowIs.congr (World.rowIs.set h 1 (.bool x)) (fun i hi => by
    match i, hi with
    | 0, _ => rfl
    | 1, _ => rfl)
theorem Br.rest {w : World} {b : Nat} {l : List UInt8} {bad : Bool} (h : Br w b l bad) (r : List UInt8) : Br (w.setCell ⟨b, 0, none⟩ (.string (bs r))) b r bad :=
  World.rowIs.congr (World.rowIs.set h 0 (.string (bs r))) (fun i hi => by
    match i, hi with
    | 0, _ => rfl
    | 1, _ => rfl)
theorem bs_nil : bs [] = ⟨#[]⟩ := rfl
set_option maxHeartbeats 1000000 in
theorem rtake_any (b n : Nat) (l : List UInt8) (bad : Bool) (w : World) (h : Br w b l bad) (hl : l.length ≤ 140737488355328) (hn : n ≤ 1000000000) :
    Calls Tryz.prog 39 #[.pointer (some ⟨b, 0, none⟩), .int .i64 n] w fun e w' => e = .returned (.string (bs (takeR l bad n).1)) ∧ Br w' b (takeR l bad n).2.1 (takeR l bad n).2.2 ∧ Gr w w' b := by
  obtain ⟨c0, c1, f0, f1⟩ := h.facts
  have hs := bs_size l
  have HB := hide h
  clear h
  cases bad with
  | true =>
    have e : takeR l true n = ([], l, true) := by simp [takeR]
    rw [e]
    go_enter Tryz.func39, Tryz.ntmps39
    go_wp2
    go_ret
    exact ⟨rfl, (unhide HB).bad true, grown_set w b 1 _⟩
  | false =>
    by_cases hlt : l.length < n
    · have e : takeR l false n = ([], l, true) := by simp [takeR, hlt]
      rw [e]
      have hi : (l.length : Int) < (n : Int) := by omega
      go_enter Tryz.func39, Tryz.ntmps39
      go_wp2
      go_ret
      exact ⟨rfl, (unhide HB).bad true, grown_set w b 1 _⟩
    · have e : takeR l false n = (l.take n, l.drop n, false) := by simp [takeR, hlt]
      rw [e]
      have hi : ¬ (l.length : Int) < (n : Int) := by omega
      have hi2 : (n : Int) ≤ (l.length : Int) := by omega
      go_enter Tryz.func39, Tryz.ntmps39
      go_wp2
      go_ret
      exact ⟨by rw [bs_take l n (by omega)]; rfl, by rw [bs_drop]; exact (unhide HB).rest _, grown_set w b 0 _⟩
theorem idx_at (t : List UInt8) (q : Nat) (x : UInt8) (h : t[q]? = some x) (W : World) : (Instr.index 9 (.string (bs t)) (.int .i64 (q : Int))).run Tryz.prog W = .ok (.int .u8 (x.toNat : Int)) W := by
  obtain ⟨hl, hx⟩ := List.getElem?_eq_some_iff.1 h
  rw [idx_bs t q hl W, leV_byte t q hl, hx]
set_option maxHeartbeats 1000000 in
set_option maxRecDepth 100000 in
theorem rnumber_any (l : List UInt8) (hl : l.length ≤ 8) (w : World) :
    Calls Tryz.prog 40 #[.string (bs l)] w fun e w' => e = .returned (.int .u64 (beV l)) ∧ w' = w := by
  have hs := bs_size l
  go_enter Tryz.func40, Tryz.ntmps40
  go_wp2
  go_loop [3, 4] (fun x i => ∃ k : Nat, k ≤ l.length ∧ i = .int .i64 (k : Int) ∧ x = .int .u64 (beV (l.take k))) (fun _ i => l.length - (intOf i).toNat)
  case atStart => exact ⟨0, Nat.zero_le _, rfl, rfl⟩
  case round =>
    obtain ⟨k, hk, rfl, rfl⟩ := hrel
    by_cases hlt : k < l.length
    · have h9 : (k : Int) < (l.length : Int) := by omega
      obtain ⟨x, hx⟩ : ∃ x, l[k]? = some x := ⟨_, List.getElem?_eq_getElem hlt⟩
      have HN : Hid (beV (l.take (k + 1)) = beV (l.take k) * 256 + x.toNat) := by
        obtain ⟨g1, rfl⟩ := List.getElem?_eq_some_iff.1 hx
        show _ = _
        rw [List.take_succ_eq_append_getElem g1, beV_snoc]
      have hbl : beV (l.take k) < 72057594037927936 := by
        have h1 := beV_lt (l.take k)
        have h2 : (l.take k).length ≤ 7 := by rw [List.length_take]; omega
        have h3 : 256 ^ (l.take k).length ≤ 256 ^ 7 := Nat.pow_le_pow_right (by decide) h2
        have h4 : (256 : Nat) ^ 7 = 72057594037927936 := by decide
        omega
      have HO := hide (or_byte _ x.toNat hbl x.toNat_lt)
      have hix := idx_at l k x hx
      clear hx hbl
      go_wp2
      refine ⟨⟨k + 1, by omega, by go_num, ?_⟩, by simp [intOf]; omega⟩
      exact congrArg (Value.int .u64) ((unhide HO).trans (by rw [unhide HN]))
    · have h9 : ¬ (k : Int) < (l.length : Int) := by omega
      have e : l.take k = l := List.take_of_length_le (by omega)
      have E := hide e
      clear e
      go_wp2
      go_ret
      exact ⟨by rw [unhide E]; rfl, rfl⟩
/-- A value by the document's reader. -/
def plainR (kind : Int) (l : List UInt8) (bad : Bool) : Val × List UInt8 × Bool :=
  if kind == 1 then (.num (sint (beV (takeR l bad 8).1)), (takeR l bad 8).2)
  else (.str (bs (takeR (takeR l bad 2).2.1 (takeR l bad 2).2.2 (beV (takeR l bad 2).1)).1), (takeR (takeR l bad 2).2.1 (takeR l bad 2).2.2 (beV (takeR l bad 2).1)).2)
theorem takeR_len (l : List UInt8) (bad : Bool) (n : Nat) : (takeR l bad n).1.length ≤ n ∧ (takeR l bad n).2.1.length ≤ l.length := by
  unfold takeR
  split
  · simp
  · simp [List.length_take]; omega
theorem Br.gr {w w' : World} {b g : Nat} {l : List UInt8} {bad : Bool} (h : Br w b l bad) (hg : Gr w w' g) (hne : b ≠ g) : Br w' b l bad :=
  World.rowIs.of_block h (hg.block b h.ne (fun e => hne (by injection e)))
theorem Br.new3 {w1 : World} {b g : Nat} {l : List UInt8} {bad : Bool} (h : Br w1 b l bad) (hne : b ≠ g) (u v x : Value) : Br (((w1.setCell ⟨g, 0, none⟩ u).setCell ⟨g, 1, none⟩ v).setCell ⟨g, 2, none⟩ x) b l bad :=
  World.rowIs.setOther (World.rowIs.setOther (World.rowIs.setOther h hne _) hne _) hne _
theorem box_br {w w1 : World} {b : Nat} {l : List UInt8} {bad : Bool} {y : Val} (h : Br w b l bad) (hg : Gr (w.alloc (.cells #[.int .i64 y.k, .int .i64 y.n, .string y.s] 59)) w1 b) : w1.rowIs w.heap.size 59 3 (box3 y) :=
  World.rowIs.of_block (box3_alloc w y) (hg.block w.heap.size (by simp) (fun e => by injection e with e; have := h.ne; omega))
end Go.Proofs.YthbfomcmjjnikaaGreat

import Derived.Test.YtjnggnhgambmkaaGreatPackF
set_option linter.unusedSimpArgs false
set_option linter.unusedVariables false
namespace Go.Proofs.YtjnggnhgambmkaaGreat
open Go.RowKit Go.Sort

theorem own_store {w : World} {base e : Nat} {R n cap i : Nat} {cs : List Value} {u : Value} (h : w.ownsRow base e 1 (.slice (some ⟨R, 0, none⟩) n cap) n cs) (hi : i < n) : (w.setCell ⟨R, i, none⟩ u).ownsRow base e 1 (.slice (some ⟨R, 0, none⟩) n cap) n (cs.set i u) := by
  refine ⟨by rw [List.length_set]; exact h.1, ?_⟩
  rcases h.2 with ⟨e0, _⟩ | ⟨g, cap', cur, ev, hb, hh, h1, h2, h3, h4⟩
  · cases e0
  · cases ev
    refine .inr ⟨R, cap, cur.setIfInBounds i u, rfl, hb, ?_, h1, h2, by simpa using h3, ?_⟩
    · simp [World.setCell, Array.getElem?_modify, hh]
    · rw [← h4]
      simp [List.take_set]
theorem OwnB.store {w : World} {base g cap j : Nat} {zs : List Int} (h : OwnB w base (.slice (some ⟨g, 0, none⟩) zs.length cap) zs) (hj : j < zs.length) (x : Int) : OwnB (w.setCell ⟨g, j, none⟩ (.int .u8 x)) base (.slice (some ⟨g, 0, none⟩) zs.length cap) (zs.set j x) := by
  have := own_store (u := .int .u8 x) h hj
  unfold OwnB
  rw [List.length_set, List.map_set]
  exact this
theorem OwnB.at {w : World} {base g cap j : Nat} {zs : List Int} {y : Int} (h : OwnB w base (.slice (some ⟨g, 0, none⟩) zs.length cap) zs) (hj : zs[j]? = some y) : w.cell? ⟨g, j, none⟩ = some (.int .u8 y) ∧ w.frozen? ⟨g, j, none⟩ = false := by
  refine ⟨?_, ?_⟩
  · have := World.ownsRow.cells h (g := g) rfl j (.int .u8 y) (by simp [hj])
    rw [Addr.add_lit] at this
    simpa using this
  · rcases h.2 with ⟨e0, _⟩ | ⟨g', cap', cur, ev, hb, hh, _⟩
    · cases e0
    · cases ev
      simp [World.frozen?, hh]
theorem Grew.store {w wr : World} {v : Value} {g n cap j : Nat} (h : Grew w wr v (.slice (some ⟨g, 0, none⟩) n cap)) (u : Value) : Grew w (wr.setCell ⟨g, j, none⟩ u) v (.slice (some ⟨g, 0, none⟩) n cap) := by
  refine ⟨⟨h.1.os, h.1.tape, h.1.output, by simp; exact h.1.size, fun i hi hne => ?_⟩, h.2⟩
  rw [Go.Deep.blk_setCell_other]
  · exact h.1.block i hi hne
  · simp
    intro e
    subst e
    rcases h.2 with e | ⟨g', e, hg⟩
    · exact hne e
    · simp [Value.ownBlock] at e; omega
theorem LisAt.grew {w w' : World} {v v' : Value} {a : Option Addr} {cs : List Value} (h : LisAt w a cs) (hg : Grew w w' v v') (hsep : ∀ ad, a = some ad → v.ownBlock ≠ some ad.block) : LisAt w' a cs := by
  rcases h with h | ⟨b, off, ha, h⟩
  · exact .inl h
  · have hs : v.ownBlock ≠ some b := hsep _ ha
    exact .inr ⟨b, off, ha, fun i x hx => by rw [grew_kept hg (World.block_lt_of_cell? _ _ (h i x hx)) hs]; exact h i x hx⟩
theorem leB_zero (N : Nat) : leB 0 N = List.replicate N 0 := by
  refine List.ext_getElem? fun i => ?_
  by_cases hi : i < N
  · simp [leB, hi, byteN_zero]
  · rw [List.getElem?_eq_none (by simp [leB]; omega), List.getElem?_eq_none (by simp; omega)]
theorem leB_at (T N q : Nat) (h : q < N) : (leB T N)[q]? = some (byteN T q : Int) := by simp [leB, h]
theorem leB_set {T P x N : Nat} (hT : T < 2 ^ P) (hx : x < 2 ^ (8 - P % 8)) (zs : List Int) : (zs ++ leB T N).set (zs.length + P / 8) ((byteN T (P / 8) + x * 2 ^ (P % 8) : Nat) : Int) = zs ++ leB (T + x * 2 ^ P) N := by
  rw [List.set_append_right _ _ (by omega), Nat.add_sub_cancel_left]
  congr 1
  refine List.ext_getElem? fun i => ?_
  rw [List.getElem?_set]
  by_cases hi : i < N
  · rw [leB_at (T + x * 2 ^ P) _ _ hi, leB_at T _ _ hi, byte_add hT hx]
    by_cases h : P / 8 = i
    · rw [if_pos h, if_pos (by rw [leB_len]; omega), if_pos h.symm, h]
    · rw [if_neg h, if_neg (Ne.symm h)]
  · rw [List.getElem?_eq_none (l := leB (T + x * 2 ^ P) N) (by rw [leB_len]; omega)]
    by_cases h : P / 8 = i
    · rw [if_pos h, if_neg (by rw [leB_len]; omega)]
    · rw [if_neg h, List.getElem?_eq_none (by rw [leB_len]; omega)]
/-- One piece of a number goes in. -/
theorem piece {T P m L s : Nat} (hm : m < 2 ^ L) (hs : s = min (8 - P % 8) L) (hT : T < 2 ^ P) :
    T + m % 2 ^ (8 - P % 8) * 2 ^ P < 2 ^ (P + s) ∧ T + m % 2 ^ (8 - P % 8) * 2 ^ P + m / 2 ^ s * 2 ^ (P + s) = T + m * 2 ^ P ∧ m / 2 ^ s < 2 ^ (L - s) := by
  have e : m % 2 ^ (8 - P % 8) = m % 2 ^ s := by
    by_cases h : 8 - P % 8 ≤ L
    · rw [hs, Nat.min_eq_left h]
    · rw [hs, Nat.min_eq_right (by omega), Nat.mod_eq_of_lt hm, Nat.mod_eq_of_lt]
      exact Nat.lt_of_lt_of_le hm (Nat.pow_le_pow_right (by decide) (by omega))
  rw [e]
  have h1 : m % 2 ^ s < 2 ^ s := Nat.mod_lt _ (Nat.two_pow_pos s)
  refine ⟨?_, ?_, ?_⟩
  · have h2 : (m % 2 ^ s + 1) * 2 ^ P ≤ 2 ^ s * 2 ^ P := Nat.mul_le_mul_right _ h1
    rw [Nat.pow_add, Nat.mul_comm (2 ^ P) (2 ^ s)]
    rw [Nat.add_mul, Nat.one_mul] at h2
    omega
  · have h3 := Nat.mod_add_div m (2 ^ s)
    rw [Nat.pow_add, Nat.mul_comm (2 ^ P) (2 ^ s), ← Nat.mul_assoc, Nat.add_assoc, ← Nat.add_mul, Nat.mul_comm (m / 2 ^ s) (2 ^ s), h3]
  · refine Nat.div_lt_of_lt_mul ?_
    rw [← Nat.pow_add, show s + (L - s) = L by omega]
    exact hm

set_option maxHeartbeats 4000000 in
set_option maxRecDepth 100000 in
theorem apbits_any (base : Nat) (zs : List Int) (aa : Option Addr) (ca : Nat) (ns : List Nat) (d : Nat) (v : Value) (w : World) (hown : OwnB w base v zs) (hlen : zs.length ≤ 1000000000) (hk : ns.length ≤ 1000000) (hd : d ≤ 64) (hn : ∀ n ∈ ns, n < 2 ^ d) (hbase : base ≤ w.heap.size)
    (ha : LisAt w aa (ns.map fun n : Nat => Value.int .u64 (n : Int))) (hsep : ∀ ad, aa = some ad → v.ownBlock ≠ some ad.block) :
    Calls Tryz.prog 59 #[v, .slice aa ns.length ca, .int .i64 d] w fun e w' => ∃ v', e = .returned v' ∧ OwnB w' base v' (zs ++ leB (total d ns) (bytesN ns.length d)) ∧ Grew w w' v v' := by
  have hN : 8 * bytesN ns.length d ≤ ns.length * d + 7 ∧ ns.length * d ≤ 8 * bytesN ns.length d := by unfold bytesN; omega
  have hml : ns.length * d ≤ 64000000 := Nat.mul_le_mul hk hd
  have HF := hide (fun w' => bytesfor_any ns.length d w' hk hd)
  have HA := hide ha
  have HN := hide hN
  have HNS := hide hn
  have HSEP := hide hsep
  have hvl : ∃ av cv, v = .slice av zs.length cv := by
    rcases hown.2 with ⟨rfl, h0⟩ | ⟨g, cap, cur, rfl, _⟩
    · exact ⟨none, 0, by rw [h0]⟩
    · exact ⟨_, _, rfl⟩
  obtain ⟨av, cv, rfl⟩ := hvl
  have HOWN := hide hown
  generalize bytesN ns.length d = N at *
  have hNb : N ≤ 8000001 := by omega
  clear ha hN hn hsep hown
  go_enter Tryz.func59, Tryz.ntmps59
  go_wp2_with (first
    | (go_at_call 76; refine (unhide HF _).mono ?_; rintro e w1 ⟨rfl, rfl⟩)
    | (at_builtin; refine wpList_append_zeros _ rfl (.tmp 16) (.tmp 20) rfl base (.slice av zs.length cv) N zs rfl rfl (unhide HOWN) (by omega) (by omega) hbase ?_; intro v1 w2 hO1 hG1; replace hO1 := hide hO1; replace hG1 := hide hG1)
    | fail)
  go_loopw [8, 24] (fun s8 s24 wr => ∃ i : Nat, i ≤ ns.length ∧ s24 = .int .i64 (i : Int) ∧ s8 = .int .i64 ((d * i : Nat) : Int) ∧ OwnB wr base v1 (zs ++ leB (total d (ns.take i)) N) ∧ Grew w1 wr (.slice av zs.length cv) v1) (fun _ s _ => ns.length - (intOf s).toNat)
  case atStart => exact ⟨0, Nat.zero_le _, rfl, by simp, by simp only [List.take_zero, total]; rw [leB_zero]; exact unhide hO1, unhide hG1⟩
  case round =>
    obtain ⟨i, hi, rfl, rfl, hO, hG⟩ := hrel
    by_cases h1 : i < ns.length
    · have i1 : (i : Int) < (ns.length : Int) := by omega
      obtain ⟨n, hn⟩ : ∃ n, ns[i]? = some n := ⟨_, List.getElem?_eq_getElem h1⟩
      have hnb := unhide HNS n (List.mem_of_getElem? hn)
      obtain ⟨qb, qo, ea, cq⟩ := ((unhide HA).grew hG (unhide HSEP)).get (k := i) (x := .int .u64 (n : Int)) (by simp [hn])
      subst ea
      have hQ : d * i + d ≤ ns.length * d := by rw [Nat.mul_comm d i, ← Nat.succ_mul]; exact Nat.mul_le_mul_right d h1
      have HT : Hid (total d (ns.take (i + 1)) = total d (ns.take i) + n * 2 ^ (d * i)) := by
        show _ = _
        obtain ⟨hi', rfl⟩ := List.getElem?_eq_some_iff.1 hn
        rw [List.take_succ_eq_append_getElem hi', total_snoc, List.length_take, Nat.min_eq_left (by omega), Nat.mod_eq_of_lt hnb, Nat.mul_comm]
      have HTL : Hid (total d (ns.take i) < 2 ^ (d * i)) := by
        show _ < _
        have := total_lt d (ns.take i)
        rw [List.length_take, Nat.min_eq_left (by omega)] at this
        exact this
      have HO := hide hO
      have HG := hide hG
      have HQ := hide hQ
      have hn64 : n < 18446744073709551616 := Nat.lt_of_lt_of_le hnb (by have : 2 ^ d ≤ 2 ^ 64 := Nat.pow_le_pow_right (by decide) hd; simpa using this)
      generalize total d (ns.take i) = T0 at *
      obtain ⟨T1, HTT⟩ : ∃ T1, Hid (total d (ns.take (i + 1)) = T1) := ⟨_, rfl⟩
      rw [unhide HTT] at HT
      generalize hD : d * i = D at *
      have HD := hide hD
      have HNB := hide hnb
      clear hO hG hQ hn hD hnb
      go_wp2_with fail
      go_loopw [8, 10, 11] (fun s8 s10 s11 wv => ∃ P m L T : Nat, s8 = .int .i64 (P : Int) ∧ s10 = .int .u64 (m : Int) ∧ s11 = .int .i64 (L : Int) ∧ P + L = D + d ∧ Hid (T < 2 ^ P) ∧ Hid (m < 2 ^ L) ∧ Hid (T + m * 2 ^ P = T1) ∧ OwnB wv base v1 (zs ++ leB T N) ∧ Grew w1 wv (.slice av zs.length cv) v1) (fun _ _ s _ => (intOf s).toNat)
      case atStart => exact ⟨D, n, d, T0, rfl, rfl, rfl, rfl, unhide HTL, unhide HNB, (unhide HT).symm, unhide HO, unhide HG⟩
      case round =>
        obtain ⟨P, m, L, T, rfl, rfl, rfl, hPL, HTP, HML, HE, hO, hG⟩ := hrel
        by_cases h2 : 0 < L
        · have i2 : (0 : Int) < (L : Int) := by omega
          have hqN : P / 8 < N := by have := (unhide HN).2; have := unhide HQ; omega
          obtain ⟨g, cap, ev⟩ : ∃ g cap, v1 = .slice (some ⟨g, 0, none⟩) (zs ++ leB T N).length cap := by
            rcases hO.2 with ⟨_, h0⟩ | ⟨g, cap, cur, ev, _⟩
            · rw [List.length_append, leB_len] at h0; omega
            · exact ⟨g, cap, ev⟩
          subst ev
          have hlN : (zs ++ leB T N).length = zs.length + N := by rw [List.length_append, leB_len]
          obtain ⟨q, hq⟩ : ∃ q, q = P / 8 := ⟨_, rfl⟩
          obtain ⟨r, hr⟩ : ∃ r, r = P % 8 := ⟨_, rfl⟩
          obtain ⟨s, hs⟩ : ∃ s, s = min (8 - r) L := ⟨_, rfl⟩
          have eq3 : (P : Int).tdiv 8 = (q : Int) := by rw [Int.tdiv_eq_ediv_of_nonneg (by omega)]; omega
          have eq4 : (P : Int).tmod 8 = (r : Int) := by rw [Int.tmod_eq_emod_of_nonneg (by omega)]; omega
          have eq5 : (8 : Int) - (r : Int) = ((8 - r : Nat) : Int) := by omega
          have hr8 : r < 8 := by omega
          have HPC := hide (piece (T := T) (P := P) (m := m) (L := L) (s := s) (unhide HML) (by rw [hs, hr]) (unhide HTP))
          obtain ⟨x, hx⟩ : ∃ x, x = m % 2 ^ (8 - r) := ⟨_, rfl⟩
          have hxl : x < 2 ^ (8 - r) := by rw [hx]; exact Nat.mod_lt _ (Nat.two_pow_pos _)
          have e256 : 2 ^ (8 - r) * 2 ^ r = 256 := by rw [← Nat.pow_add, show 8 - r + r = 8 by omega]
          have hlow : byteN T q < 2 ^ r := by rw [hq, hr]; exact byte_low (unhide HTP)
          have hsum : byteN T q + x * 2 ^ r < 256 := by
            have h3 : (x + 1) * 2 ^ r ≤ 2 ^ (8 - r) * 2 ^ r := Nat.mul_le_mul_right _ hxl
            rw [e256, Nat.add_mul, Nat.one_mul] at h3
            omega
          have hor := or_u8 (byteN T q) (x * 2 ^ r) (by omega) (by omega)
          rw [or_add hlow] at hor
          obtain ⟨sv, hsv⟩ : ∃ sv, sv = x * 2 ^ r := ⟨_, rfl⟩
          have eqS : IntKind.u64.wrap ((m : Int) * 2 ^ r) % 256 = (sv : Int) := by
            rw [IntKind.wrap_u64]
            have h4 : m * 2 ^ r % 18446744073709551616 % 256 = sv := by
              rw [Nat.mod_mod_of_dvd _ (by decide), hsv, hx, ← e256, Nat.mul_mod_mul_right]
            have h5 : ((m * 2 ^ r : Nat) : Int) = (m : Int) * 2 ^ r := by simp
            rw [← h5]
            omega
          have HSET := hide (leB_set (T := T) (P := P) (x := x) (N := N) (unhide HTP) (by rw [← hr]; exact hxl) zs)
          rw [← hq, ← hr, ← hsv] at HSET
          rw [← hr, ← hx] at HPC
          rw [← hsv] at hor hsum
          obtain ⟨c1, f1⟩ := OwnB.at (j := zs.length + q) (y := (byteN T q : Int)) hO (by rw [List.getElem?_append_right (by omega), Nat.add_sub_cancel_left]; exact leB_at T N q (by omega))
          have HST := hide (OwnB.store hO (j := zs.length + q) (by rw [hlN]; omega) ((byteN T q + sv : Nat) : Int))
          rw [unhide HSET] at HST
          generalize byteN T q = Bv at *
          have hLL : ((zs ++ leB T N).length : Int) = (zs.length : Int) + (N : Int) := by rw [hlN]; simp
          have hqL : (zs.length : Int) + (q : Int) < ((zs ++ leB T N).length : Int) := by rw [hLL]; omega
          have HGS := hide (Grew.store (j := zs.length + q) hG (.int .u8 ((Bv : Int) + (sv : Int))))
          have HLN : Hid ((zs ++ leB (T + x * 2 ^ P) N).length = (zs ++ leB T N).length) := by show _ = _; rw [List.length_append, List.length_append, leB_len, leB_len]
          generalize hLe : (zs ++ leB T N).length = LL at *
          have emin : min ((8 : Int) - (r : Int)) (L : Int) = (s : Int) := by rw [hs]; omega
          have hs64 : (s : Int) ≤ 8 := by rw [hs]; omega
          have hsL : (s : Int) ≤ (L : Int) := by rw [hs]; omega
          have hs0 : 0 < s := by rw [hs]; omega
          have hm64 : (P : Int) ≤ 64000000 := by have := unhide HQ; omega
          have hq8 : (q : Int) ≤ 8000001 := by omega
          have hL8 : (L : Int) ≤ 64000000 := by have := unhide HQ; omega
          have HX := hide hx
          clear hO hG hq hr hs hx hsv hlow hxl e256 hlN hLe hLL
          rw [Int.natCast_add] at HST
          have hz8 : (zs.length : Int) ≤ 1000000000 := by omega
          obtain ⟨KK, hKK⟩ : ∃ KK, zs.length + q = KK := ⟨_, rfl⟩
          rw [hKK] at c1 f1 HST HGS
          have ezk : (zs.length : Int) + (q : Int) = (KK : Int) := by omega
          rw [ezk] at hqL
          clear hKK
          have emin2 : (if L < 8 - r then (L : Int) else ((8 - r : Nat) : Int)) = (s : Int) := by
            rw [← emin]
            split <;> omega
          have HP0 := unhide HPC
          go_upto_region 11 with fail
          try rw [emin2]
          clear emin2 emin eq5 HP0
          go_region
          go_wp2
          go_roundw
          case rel =>
            refine ⟨P + s, m / 2 ^ s, L - s, T + x * 2 ^ P, by go_num, ?_, ?_, by omega, (unhide HPC).1, (unhide HPC).2.2, ?_, World.ownsRow.drew (unhide HST), (unhide HGS).trans (Grew.drew _ _)⟩
            · first | rfl | (congr 1; simp; done) | (simp; done)
            · first | go_num | (congr 1; omega)
            · show _ = _
              rw [(unhide HPC).2.1]
              exact unhide HE
          case measure => first | (simp [intOf]; omega) | (simp only [intOf]; omega)
        · have i2 : ¬ (0 : Int) < (L : Int) := by omega
          have hL0 : L = 0 := by omega
          have HT2 : Hid (T = T1) := by
            show _ = _
            have h3 := unhide HE
            have h4 := unhide HML
            rw [hL0] at h4
            have h5 : m = 0 := by simpa using h4
            rw [h5] at h3
            simpa using h3
          have hPD : P = D + d := by omega
          have HO2 : Hid (OwnB wr base v1 (zs ++ leB T1 N)) := by rw [← unhide HT2]; exact hO
          have HG2 := hide hG
          have HPD := hide hPD
          clear hO hG hL0 hPD
          go_wp2
          go_roundw
          case rel => exact ⟨i + 1, by omega, by go_num, by rw [unhide HPD, Nat.mul_succ, unhide HD], by rw [unhide HTT]; exact unhide HO2, unhide HG2⟩
          case measure => first | (simp [intOf]; omega) | (simp only [intOf]; omega)
    · have i1 : ¬ (i : Int) < (ns.length : Int) := by omega
      have hi' : i = ns.length := by omega
      rw [hi', List.take_length] at hO
      have HO := hide hO
      have HG := hide hG
      clear hO hG hi'
      go_wp2
      go_ret
      exact ⟨_, rfl, unhide HO, unhide HG⟩
end Go.Proofs.YtjnggnhgambmkaaGreat

import Derived.Test.YtbdkpkpncmagoaaGreatQSrF
set_option linter.unusedSimpArgs false
set_option linter.unusedVariables false
set_option maxRecDepth 100000
namespace Go.Proofs.YtbdkpkpncmagoaaGreat
open Go.RowKit Go.Sort

theorem LD.start {w w3 : World} {r : List UInt8} (h : LB w w3 r) (m n : Nat) : LD w ((w3.alloc (.cells #[.int .i64 (m : Int), .slice none 0 0, .slice none 0 0] 67)).alloc (.cells (madeCells #[.int .u64 0] n) 86)) w3.heap.size (w3.heap.size + 1) n m noSl [] [] r := by
  have h1 : (w3.alloc (.cells #[.int .i64 (m : Int), .slice none 0 0, .slice none 0 0] 67)).rowIs w3.heap.size 67 3 (seg3 m noSl noSl) := World.rowIs_alloc w3 _ 67 _ (fun i hi => by
    match i, hi with
    | 0, _ => rfl
    | 1, _ => rfl
    | 2, _ => rfl
    | n + 3, h => have : n + 3 < 3 := h; omega)
  have h2 := World.rowIs_made (w3.alloc (.cells #[.int .i64 (m : Int), .slice none 0 0, .slice none 0 0] 67)) (.int .u64 0) n 86
  have e : (w3.alloc (.cells #[.int .i64 (m : Int), .slice none 0 0, .slice none 0 0] 67)).heap.size = w3.heap.size + 1 := by simp
  rw [e] at h2
  have lw := h.rd.lt
  exact ⟨⟨(h.rd.alloc _).alloc _, (h.res.alloc _).alloc _, below_alloc (below_alloc h.bel _) _⟩, h1.alloc _, World.ownsRow_nil _ _ _ _, World.rowIs.congr h2 (fun i hi => by simp), lw, by omega⟩
theorem LD.cell {w wr : World} {G S n rows : Nat} {zv : Value} {zs : List ByteArray} {ss : List Nat} {r : List UInt8} (h : LD w wr G S n rows zv zs ss r) : wr.cell? ⟨G, 1, none⟩ = some zv := World.rowIs.cell h.g (i := 1) (by decide)
set_option maxHeartbeats 4000000 in
set_option maxRecDepth 100000 in
theorem laid_yes (l : List UInt8) (hl : l.length ≤ 140737488300000) (hn1 : 1 ≤ layN l) (hn2 : layN l ≤ 32) (w : World) : Calls Tryz.prog 50 #[.string (bs l)] w fun e w' => LayQ w w' l e := by
  obtain ⟨i6, hi6, z60, z61, z62⟩ := info_parts Tryz.info86
  obtain ⟨i2, hi2, z20, z21, z22⟩ := info_parts Tryz.info9
  obtain ⟨j4, hj4, y40, y41, y42⟩ := info_parts Tryz.info49'
  obtain ⟨n, hN⟩ : ∃ n, layN l = n := ⟨_, rfl⟩
  obtain ⟨m, hR⟩ : ∃ m, layR l = m := ⟨_, rfl⟩
  have hm : m < 4294967296 := by
    rw [← hR]; exact be_lt (n := 4)
  have im : (m : Int) < 4294967296 := by omega
  rw [hN] at hn1 hn2
  have i1 : ((n : Int) < 1) = False := by simp only [eq_iff_iff, iff_false]; omega
  have i2' : ((32 : Int) < (n : Int)) = False := by simp only [eq_iff_iff, iff_false]; omega
  have HT : Hid (∀ W, LB w W l → Calls Tryz.prog 61 #[.pointer (some ⟨w.heap.size + 1, 0, none⟩), .int .u64 2] W fun e w' => (∃ t, e = .returned (.string t)) ∧ LB w w' (l.drop 2)) := fun W h => by
    refine (stake2 _ 2 l W h.rd hl (by omega)).mono ?_
    rintro e w' ⟨rfl, h1, h2⟩
    exact ⟨⟨_, rfl⟩, h.gr h1 h2⟩
  have H1 : Hid (∀ W, LB w W (l.drop 2) → Calls Tryz.prog 62 #[.pointer (some ⟨w.heap.size + 1, 0, none⟩), .int .u64 1] W fun e w' => e = .returned (.int .u64 (n : Int)) ∧ LB w w' ((l.drop 2).drop 1)) := fun W h => by
    refine (snum _ 1 (l.drop 2) W h.rd (by rw [List.length_drop]; omega) (by omega)).mono ?_
    rintro e w' ⟨rfl, h1, h2⟩
    exact ⟨by rw [← hN]; rfl, h.gr h1 h2⟩
  obtain ⟨l0, hl0⟩ : ∃ l0, ((l.drop 2).drop 1).drop 4 = l0 := ⟨_, rfl⟩
  have H4 : Hid (∀ W, LB w W ((l.drop 2).drop 1) → Calls Tryz.prog 62 #[.pointer (some ⟨w.heap.size + 1, 0, none⟩), .int .u64 4] W fun e w' => e = .returned (.int .u64 (m : Int)) ∧ LB w w' l0) := fun W h => by
    refine (snum _ 4 _ W h.rd (by simp only [List.length_drop]; omega) (by omega)).mono ?_
    rintro e w' ⟨rfl, h1, h2⟩
    exact ⟨by rw [← hR]; rfl, by rw [← hl0]; exact h.gr h1 h2⟩
  have hl0l : l0.length ≤ 140737488300000 := by rw [← hl0]; simp only [List.length_drop]; omega
  have HS := hide (LB.start w l)
  have HNN := hide hN
  have HRR := hide hR
  have HL0 := hide hl0
  clear hN hR hl0
  have HN12 := hide (And.intro hn1 hn2)
  clear hn1 hn2 hm
  go_enter Tryz.func50, Tryz.ntmps50
  go_wp2_with (first
    | (go_at_call 61; refine (unhide HT _ (unhide HS)).mono ?_; rintro _ w1 ⟨⟨t, rfl⟩, h1⟩; have HB1 := hide h1; clear h1)
    | (go_at_call_of 62 (Value.int IntKind.u64 1); refine (unhide H1 _ (unhide HB1)).mono ?_; rintro _ w2 ⟨rfl, h2⟩; have HB2 := hide h2; clear h2)
    | (go_at_call_of 62 (Value.int IntKind.u64 4); refine (unhide H4 _ (unhide HB2)).mono ?_; rintro _ w3 ⟨rfl, h3⟩; have HB3 := hide h3; clear h3)
    | (at_make; refine wpList_make_row _ rfl (.tmp 27) (.tmp 27) 109 rfl 86 i6 (.int .u64 0) Tryz.underlying109 hi6 z60 z61 rfl .u64 .u64 n rfl rfl (by have := unhide HN12; rw [z62]; omega) (by have := unhide HN12; omega) ?_))
  have HD := hide (LD.start (unhide HB3) m n)
  clear HT H1 H4 HS HB1 HB2
  obtain ⟨G, hG⟩ : ∃ G, w3.heap.size = G := ⟨_, rfl⟩
  rw [hG] at HD ⊢
  clear HB3 hG
  go_loopw [31] (fun s wr => ∃ (k : Nat) (zv : Value), k ≤ n ∧ s = .int .i64 (k : Int) ∧ Hid (LD w wr G (G + 1) n m zv ((zst k l0).1.map Prod.fst) ((zst k l0).1.map Prod.snd) (zst k l0).2)) (fun s _ => n - (intOf s).toNat)
  case atStart => exact ⟨0, _, Nat.zero_le _, rfl, HD⟩
  case round =>
    obtain ⟨k, zv, hk, rfl, HK⟩ := hrel
    clear HD
    by_cases hkn : k < n
    · have ik : (k : Int) < (n : Int) := by omega
      have hzl : (zst k l0).1.length = k := zst_len l0 k
      have hrl : (zst k l0).2.length ≤ 140737488300000 := Nat.le_trans (zst_rest l0 k) hl0l
      have HZ1 : Hid (zst (k + 1) l0 = ((zst k l0).1 ++ [z1 (zst k l0).2], zr (zst k l0).2)) := rfl
      obtain ⟨r, hr⟩ : ∃ r, (zst k l0).2 = r := ⟨_, rfl⟩
      obtain ⟨ps, hps⟩ : ∃ ps, (zst k l0).1 = ps := ⟨_, rfl⟩
      rw [hr] at HK hrl HZ1
      rw [hps] at HK hzl HZ1
      clear hr hps
      obtain ⟨a, ha⟩ : ∃ a, beV (r.take 2) = a := ⟨_, rfl⟩
      have hab : a < 65536 := by rw [← ha]; exact be_lt (n := 2)
      obtain ⟨z, hz⟩ : ∃ z, bs ((r.drop 2).take a) = z := ⟨_, rfl⟩
      obtain ⟨v, hv⟩ : ∃ v, beV (((r.drop 2).drop a).take 4) = v := ⟨_, rfl⟩
      have HE : Hid (z1 r = (z, v)) := by show _ = _; unfold z1; rw [ha, hz, hv]
      have HE2 : Hid (zr r = ((r.drop 2).drop a).drop 4) := by show _ = _; unfold zr; rw [ha]
      have HA : Hid (∀ W, LD w W G (G + 1) n m zv (ps.map Prod.fst) (ps.map Prod.snd) r → Calls Tryz.prog 62 #[.pointer (some ⟨w.heap.size + 1, 0, none⟩), .int .u64 2] W fun e w' => e = .returned (.int .u64 (a : Int)) ∧ LD w w' G (G + 1) n m zv (ps.map Prod.fst) (ps.map Prod.snd) (r.drop 2)) := fun W h => by
        refine (snum _ 2 r W h.lb.rd hrl (by omega)).mono ?_
        rintro e w' ⟨rfl, h1, h2⟩
        exact ⟨by rw [← ha], h.gr h1 h2⟩
      have HB : Hid (∀ W, LD w W G (G + 1) n m zv (ps.map Prod.fst) (ps.map Prod.snd) (r.drop 2) → Calls Tryz.prog 61 #[.pointer (some ⟨w.heap.size + 1, 0, none⟩), .int .u64 (a : Int)] W fun e w' => e = .returned (.string z) ∧ LD w w' G (G + 1) n m zv (ps.map Prod.fst) (ps.map Prod.snd) ((r.drop 2).drop a)) := fun W h => by
        refine (stake2 _ a (r.drop 2) W h.lb.rd (by rw [List.length_drop]; omega) (by omega)).mono ?_
        rintro e w' ⟨rfl, h1, h2⟩
        exact ⟨by rw [← hz], h.gr h1 h2⟩
      have HC : Hid (∀ W zv', LD w W G (G + 1) n m zv' (ps.map Prod.fst ++ [z]) (ps.map Prod.snd) ((r.drop 2).drop a) → Calls Tryz.prog 62 #[.pointer (some ⟨w.heap.size + 1, 0, none⟩), .int .u64 4] W fun e w' => e = .returned (.int .u64 (v : Int)) ∧ LD w w' G (G + 1) n m zv' (ps.map Prod.fst ++ [z]) (ps.map Prod.snd) (((r.drop 2).drop a).drop 4)) := fun W zv' h => by
        refine (snum _ 4 _ W h.lb.rd (by simp only [List.length_drop]; omega) (by omega)).mono ?_
        rintro e w' ⟨rfl, h1, h2⟩
        exact ⟨by rw [← hv], h.gr h1 h2⟩
      have hZ : (ps.map Prod.fst).length = k := by rw [List.length_map]; exact hzl
      have HZL := hide hZ
      have HPL := hide hzl
      have S0 : wr.drew.cell? ⟨G, 1, none⟩ = some zv := (unhide HK).drew.cell
      clear ha hz hv hzl hZ hrl
      go_upto_region 11 with fail
      refine wp_region_noPanic ?_
      refine wp_region_G (S := fun w' : World => w'.cell? ⟨G, 1, none⟩ = some zv) (k := 5) (by kernel_rfl) ?_
      refine anyG_takel (i := 0) (v := (.pointer (some ⟨G, 1, none⟩))) [1, 5] rfl (by kernel_rfl) (by kernel_rfl) (by kernel_rfl) (by kernel_rfl) (fun _ _ _ h => h) (Or.inl ⟨by rfl, fun w' hSw => ?_⟩) S0 ?_
      · dsimp only at hSw; go_simp
      try simp only [Act.put, List.setIfInBounds_toArray, List.set_cons_zero, List.set_cons_succ]
      refine anyG_takel (i := 1) (v := zv) [5] rfl (by kernel_rfl) (by kernel_rfl) (by kernel_rfl) (by kernel_rfl) (fun _ _ _ h => h) (Or.inl ⟨by rfl, fun w' hSw => ?_⟩) S0 ?_
      · dsimp only at hSw; go_simp
      try simp only [Act.put, List.setIfInBounds_toArray, List.set_cons_zero, List.set_cons_succ]
      clear S0
      refine anyG_one (i := 2) (by kernel_rfl) ?_
      refine wpOp_lit rfl (by rfl) fun K hK => ?_
      go_simp
      refine (unhide HA _ (unhide HK).drew).mono ?_
      rintro _ w4 ⟨rfl, h4⟩
      have S4 := h4.cell
      have HD4 := hide h4
      clear h4
      go_simp
      refine unhide hK _ _ ⟨fun _ => S4, ?_⟩
      clear hK K
      refine anyG_one (i := 3) (by kernel_rfl) ?_
      refine wpOp_lit rfl (by rfl) fun K hK => ?_
      go_simp
      refine (unhide HB _ (unhide HD4)).mono ?_
      rintro _ w5 ⟨rfl, h5⟩
      have S5 := h5.cell
      have S6 : (w5.alloc (.cells #[.string z] 9)).cell? ⟨G, 1, none⟩ = some zv := World.rowIs.cell (h5.g.alloc _) (i := 1) (by decide)
      have HD5 := hide h5
      clear h5 S4
      go_simp
      refine unhide hK _ _ ⟨fun _ => S5, ?_⟩
      clear hK K
      refine anyG_one (i := 4) (by kernel_rfl) ?_
      refine wpOp_lit rfl (by rfl) fun K hK => ?_
      go_simp
      refine unhide hK _ _ ⟨fun _ => S6, ?_⟩
      clear hK K S5 S6
      refine anyG_one (i := 5) (by kernel_rfl) ?_
      refine wpOp_lit rfl (by rfl) fun K hK => ?_
      refine wp_append_lies _ (.tmp 35) (.tmp 38) 47 (by rfl) w.heap.size 9 i2 (.string ⟨#[]⟩) 1 16 Tryz.underlying47 hi2 z20 z21 z22 (by rfl) (by decide) zv k ((ps.map Prod.fst).map Value.string) (by rfl) (by have := (unhide HD5).z; rw [unhide HZL] at this; exact World.ownsRow.alloc this _) ⟨w5.heap.size, 0, none⟩ 1 1 [.string z] (by rfl) (by rfl) (cell_one_new _ _ _) (by intro u hu; simp at hu; subst hu; rfl) (by decide) (by have := unhide HN12; unfold maxLen; omega) (by have := unhide HN12; omega) (by have := (unhide HD5).lb.bel.size; simp; omega) (w5.heap.size + 1) (by simp) ?_
      intro g cap w6 hown6 hgrow6 hat6 hlt6
      have hown7 : w6.ownsRow w.heap.size 9 1 (.slice (some ⟨g, 0, none⟩) (k + 1) cap) ((ps.map Prod.fst).length + 1) ((ps.map Prod.fst).map Value.string ++ [.string z]) := (by rw [unhide HZL]; exact hown6)
      have hrg := rowIs_grown ((unhide HD5).g.alloc _) hgrow6 (own_ne (unhide HD5).g (unhide HD5).z (by decide))
      have qf : w6.frozen? ⟨G, 1, none⟩ = false := World.rowIs.frozen hrg 1
      have qc : w6.cell? ⟨G, 1, none⟩ = some zv := World.rowIs.cell hrg (i := 1) (by decide)
      have HD6 := hide ((unhide HD5).push hown7 hgrow6)
      clear hown6 hown7 hgrow6 hat6 hlt6 hrg
      refine unhide hK _ _ ⟨fun hh => absurd hh (by decide), ?_⟩
      clear hK K
      refine anyG_one (i := 6) (by kernel_rfl) ?_
      refine wpOp_lit rfl (by rfl) fun K hK => ?_
      go_simp
      refine unhide hK _ _ ⟨fun hh => absurd hh (by decide), ?_⟩
      clear hK K
      refine anyG_one (i := 7) (by kernel_rfl) ?_
      refine wpOp_lit rfl (by rfl) fun K hK => ?_
      go_simp
      refine unhide hK _ _ ⟨fun hh => absurd hh (by decide), ?_⟩
      clear hK K
      refine anyG_done (by kernel_rfl) ?_ _
      refine NoPanic.normal ?_
      clear HK HA HB HD4 HD5 qc qf
      obtain ⟨w7, hw7⟩ : ∃ w7, w6.setCell ⟨G, 1, none⟩ (.slice (some ⟨g, 0, none⟩) (k + 1) cap) = w7 := ⟨_, rfl⟩
      rw [hw7] at HD6 ⊢
      clear hw7
      have hsz8 : ∀ W, LD w W G (G + 1) n m (.slice (some ⟨g, 0, none⟩) (k + 1) cap) (ps.map Prod.fst ++ [z]) (ps.map Prod.snd) (((r.drop 2).drop a).drop 4) → W.cell? ⟨G + 1, k, none⟩ = some (.int .u64 (((ps.map Prod.snd).getD k 0 : Nat) : Int)) ∧ W.frozen? ⟨G + 1, k, none⟩ = false := fun W h => ⟨World.rowIs.cell h.s (i := k) hkn, World.rowIs.frozen h.s k⟩
      have HSZ := hide hsz8
      clear hsz8
      have ik2 : (k : Int) ≤ 32 := by have := unhide HN12; omega
      go_wp2_with (go_at_call_of 62 (Value.int IntKind.u64 4); refine (unhide HC _ _ (unhide HD6)).mono ?_; rintro _ w8 ⟨rfl, h8⟩; obtain ⟨qc8, qf8⟩ := unhide HSZ _ h8; have HD8 := hide (h8.size v k (by rw [List.length_map]; exact unhide HPL)); clear h8)
      go_roundw
      case rel =>
        refine ⟨k + 1, .slice (some ⟨g, 0, none⟩) (k + 1) cap, by omega, by go_num, ?_⟩
        rw [unhide HZ1]
        simp only [List.map_append, List.map_cons, List.map_nil, unhide HE, unhide HE2]
        exact HD8
      case measure => first | (simp [intOf]; omega) | (simp only [intOf]; omega)
    · have hkn2 : k = n := by omega
      subst hkn2
      have hss : (zst k l0).1.map Prod.snd = layS l := by unfold layS; rw [unhide HL0]; have := unhide HNN; unfold layN at this; rw [this]
      have hzz : (zst k l0).1.map Prod.fst = layZ l := by unfold layZ; rw [unhide HL0]; have := unhide HNN; unfold layN at this; rw [this]
      have htt : (zst k l0).2 = layT l := by unfold layT; rw [unhide HL0]; have := unhide HNN; unfold layN at this; rw [this]
      have hsl : (layS l).length = k := by rw [← hss, List.length_map]; exact zst_len l0 k
      have hzl : (layZ l).length = k := by rw [← hzz, List.length_map]; exact zst_len l0 k
      have hrl : (layT l).length ≤ 140737488300000 := by rw [← htt]; exact Nat.le_trans (zst_rest l0 k) hl0l
      have hsb : ∀ i, (layS l).getD i 0 < 4294967296 := fun i => by
        rw [← hss]
        show ((((zst k l0).1.map Prod.snd)[i]?).getD 0) < _
        rw [List.getElem?_map]
        cases hq : (zst k l0).1[i]? with
        | none => simp
        | some q => exact zst_lt l0 k i q hq
      rw [hss, hzz, htt] at HK
      clear hss hzz htt
      obtain ⟨ss, hss⟩ : ∃ ss, layS l = ss := ⟨_, rfl⟩
      obtain ⟨zs, hzs⟩ : ∃ zs, layZ l = zs := ⟨_, rfl⟩
      obtain ⟨r0, hr0⟩ : ∃ r0, layT l = r0 := ⟨_, rfl⟩
      rw [hss] at HK hsl hsb
      rw [hzs] at HK hzl
      rw [hr0] at HK hrl
      have HEQ := hide (And.intro hss (And.intro hzs hr0))
      have HZL := hide hzl
      have HSL := hide hsl
      have HSB := hide hsb
      have HRL := hide hrl
      clear hss hzs hr0 hzl hsl hsb hrl
      have HM := hide (LE.start (unhide HK))
      obtain ⟨n, hn⟩ : ∃ n, k = n := ⟨_, rfl⟩
      rw [hn] at HM HZL HSL HN12 HNN
      have ik : ¬ (k : Int) < (k : Int) := by omega
      have in32 : (k : Int) ≤ 32 := by have := (unhide HN12).2; omega
      clear HK
      go_wp2
      subst hn
      go_loopw [48] (fun s wr => ∃ (j : Nat) (cv : Value) (Cs : List (Vc × Sl)), j ≤ k ∧ s = .int .i64 (j : Int) ∧ Hid (Cs.length = j) ∧ Hid (LE w wr G (G + 1) k m zv cv zs ss (colR ss j r0) Cs) ∧ Hid (∀ i X, (Cs.map Prod.fst)[i]? = some X → UnR (colP ss i r0) X 0 ∧ X.nl.length = m)) (fun s _ => k - (intOf s).toNat)
      case atStart => exact ⟨0, _, [], Nat.zero_le _, rfl, rfl, HM, fun i X h => by simp at h⟩
      case round =>
        obtain ⟨j, cv, Cs, hj, rfl, HCL, HJ, HU⟩ := hrel
        clear HM
        by_cases hjk : j < k
        · have ij : (j : Int) < (k : Int) := by omega
          have hsz : wr.cell? ⟨G + 1, j, none⟩ = some (.int .u64 ((ss.getD j 0 : Nat) : Int)) := World.rowIs.cell (unhide HJ).s (i := j) hjk
          obtain ⟨b, hb⟩ : ∃ b, ss.getD j 0 = b := ⟨_, rfl⟩
          obtain ⟨cp, hcp⟩ : ∃ cp, colP ss j r0 = cp := ⟨_, rfl⟩
          have HT : Hid (∀ W, LE w W G (G + 1) k m zv cv zs ss (colR ss j r0) Cs → Calls Tryz.prog 61 #[.pointer (some ⟨w.heap.size + 1, 0, none⟩), .int .u64 (b : Int)] W fun e w' => e = .returned (.string (bs cp)) ∧ LE w w' G (G + 1) k m zv cv zs ss (colR ss (j + 1) r0) Cs) := fun W h => by
            refine (stake2 _ b _ W h.lb.rd (by have := colR_len ss r0 j; have := unhide HRL; omega) (by have := unhide HSB j; omega)).mono ?_
            rintro e w' ⟨rfl, h1, h2⟩
            rw [← hb] at h1 ⊢
            exact ⟨by rw [← hcp]; rfl, h.gr h1 h2⟩
          have HP : Hid (∀ W, Calls Tryz.prog 63 #[.string (bs cp)] W fun e w' => ∃ X p f, e = .returned (.tuple #[.agg #[.int .i64 X.k, .slice p.a1 X.nl.length p.c1, .slice p.a2 X.ns.length p.c2, .slice p.a3 X.ss.length p.c3], .int .i64 f]) ∧ VecAt w' X p ∧ Own3 w' W.heap.size X p ∧ Hid (UnR cp X f) ∧ Below W.heap.size W w') := fun W => pread_un cp W (by have := colP_len ss r0 j; have := unhide HRL; rw [← hcp]; omega)
          rw [hb] at hsz
          have HCP := hide hcp
          clear hb hcp
          go_upto_region 18 with (first
            | (go_at_call 61; refine (unhide HT _ (unhide HJ)).mono ?_; rintro _ w4 ⟨rfl, h4⟩; have HE4 := hide h4; clear h4)
            | (go_at_call 63; refine (unhide HP _).mono ?_; rintro _ w5 ⟨X, p, f, rfl, hv5, hf5, HUN, hb5⟩; have HE5 := hide ((unhide HE4).later hb5); have HV5 := hide (And.intro hv5 hf5); clear hv5 hf5 hb5))
          have HE6 := hide ((unhide HE5).later (below_alloc (Below.refl _ _) (.cells #[.int .i64 X.k, .slice p.a1 X.nl.length p.c1, .slice p.a2 X.ns.length p.c2, .slice p.a3 X.ss.length p.c3] 49)))
          have hg0 : (w5.alloc (.cells #[.int .i64 X.k, .slice p.a1 X.nl.length p.c1, .slice p.a2 X.ns.length p.c2, .slice p.a3 X.ss.length p.c3] 49)).cell? ⟨G, 0, none⟩ = some (.int .i64 (m : Int)) := World.rowIs.cell (unhide HE6).g (i := 0) (by decide)
          have HNB : Hid (¬ (f = 0 ∧ X.nl.length = m) → ∀ Xs, ¬ Lay l Xs) := fun hb Xs h => by
            have hlen : j < Xs.length := by rw [h.len, unhide HNN]; exact hjk
            obtain ⟨u1, u2⟩ := h.at_ j _ (List.getElem?_eq_getElem hlen)
            rw [(unhide HEQ).1, (unhide HEQ).2.2, unhide HCP] at u1
            obtain ⟨e1, e2⟩ := (unhide HUN).one u1
            exact hb ⟨e2, by rw [e1, u2, unhide HRR]⟩
          by_cases hf : f = 0
          · subst hf
            by_cases hlm : X.nl.length = m
            · have j1 : (((X.nl.length : Nat) : Int) != (m : Int)) = false := by rw [hlm]; exact bne_self_eq_false _
              have HLM := hide hlm
              have hcc : (w5.alloc (.cells #[.int .i64 X.k, .slice p.a1 X.nl.length p.c1, .slice p.a2 X.ns.length p.c2, .slice p.a3 X.ss.length p.c3] 49)).cell? ⟨G, 2, none⟩ = some cv := World.rowIs.cell (unhide HE6).g (i := 2) (by decide)
              have HC4 : Hid (∀ (q : Nat) (u : Value), (c4 (X, p))[q]? = some u → ((w5.alloc (.cells #[.int .i64 X.k, .slice p.a1 X.nl.length p.c1, .slice p.a2 X.ns.length p.c2, .slice p.a3 X.ss.length p.c3] 49)).alloc (.cells #[.int .i64 X.k, .slice p.a1 X.nl.length p.c1, .slice p.a2 X.ns.length p.c2, .slice p.a3 X.ss.length p.c3] 49)).cell? ((⟨w5.heap.size + 1, 0, none⟩ : Addr).add q) = some u) := fun q u hu => by
                have := cells4_new (w5.alloc (.cells #[.int .i64 X.k, .slice p.a1 X.nl.length p.c1, .slice p.a2 X.ns.length p.c2, .slice p.a3 X.ss.length p.c3] 49)) (X, p) q u hu
                rwa [show (w5.alloc (.cells #[.int .i64 X.k, .slice p.a1 X.nl.length p.c1, .slice p.a2 X.ns.length p.c2, .slice p.a3 X.ss.length p.c3] 49)).heap.size = w5.heap.size + 1 by simp] at this
              clear hlm HNB HT HP
              have hwl := World.ownsRow.lt (unhide HE4).c
              have HWL := hide hwl
              have HGL := hide (unhide HE4).g.lt
              clear hwl
              go_upto_region 20 with fail
              have HBD := hide (And.intro hjk in32)
              clear i1 i2' hk hkn ik j1 hg0 in32 ij hsz hjk im hl hl0l
              go_upto_region 21 with (at_builtin; refine wpList_append_own_at _ rfl (.tmp 70) (.tmp 72) 61 rfl w.heap.size 49 j4 (.agg #[.int .i64 0, .slice none 0 0, .slice none 0 0, .slice none 0 0]) 4 80 Tryz.underlying61 hj4 y40 y41 y42 rfl (by decide) _ _ _ rfl (World.ownsRow.alloc (unhide HE6).c _) ⟨w5.heap.size + 1, 0, none⟩ 1 1 (c4 (X, p)) rfl rfl (unhide HC4) (c4_one _) (by have := unhide HBD; rw [unhide HCL]; unfold maxLen; omega) (by have := unhide HBD; rw [unhide HCL]; omega) (by have := (unhide HE6).lb.bel.size; simp at this ⊢; omega) ?_; intro v7 w7 hown7 hgrow7 _ hat7; obtain ⟨ad7, cp7, rfl⟩ := own_shape hown7; have hr7 := rowIs_grown ((unhide HE6).g.alloc (.cells #[.int .i64 X.k, .slice p.a1 X.nl.length p.c1, .slice p.a2 X.ns.length p.c2, .slice p.a3 X.ss.length p.c3] 49)) hgrow7 (own_ne (unhide HE6).g (unhide HE6).c (by decide)); have qf7 : w7.frozen? ⟨G, 2, none⟩ = false := World.rowIs.frozen hr7 2; have qc7 : w7.cell? ⟨G, 2, none⟩ = some cv := World.rowIs.cell hr7 (i := 2) (by decide); have HE7 := hide ((unhide HE6).push ((unhide HV5).1.later (below_alloc (Below.refl _ _) _)) ((unhide HV5).2.later (below_alloc (Below.refl _ _) _)) (fun g hg => (unhide HWL g hg).2) (unhide HGL) hown7 hgrow7 hat7); clear hown7 hgrow7 hat7 hr7)
              have hj8 : (j : Int) ≤ 32 := by have := unhide HBD; omega
              have hjk := (unhide HBD).1
              go_wp2
              go_roundw
              case rel =>
                refine ⟨j + 1, _, Cs ++ [(X, p)], by omega, by go_num, by show _ = _; rw [List.length_append, unhide HCL]; rfl, HE7, ?_⟩
                intro i Y hY
                rw [List.map_append] at hY
                by_cases hi : i < j
                · rw [List.getElem?_append_left (by rw [List.length_map, unhide HCL]; exact hi)] at hY
                  exact unhide HU i Y hY
                · have e2 : i = j := by
                    have := (List.getElem?_eq_some_iff.1 hY).1
                    simp [unhide HCL] at this
                    omega
                  subst e2
                  rw [List.getElem?_append_right (by rw [List.length_map, unhide HCL]; omega), List.length_map, unhide HCL] at hY
                  simp at hY
                  subst hY
                  exact ⟨by rw [unhide HCP]; exact unhide HUN, unhide HLM⟩
              case measure => first | (simp [intOf]; omega) | (simp only [intOf]; omega)
            · have j1 : (((X.nl.length : Nat) : Int) != (m : Int)) = true := by rw [bne_iff_ne]; omega
              have HNO := hide (unhide HNB (fun h => hlm h.2))
              clear hlm HNB
              obtain ⟨⟨b0, b1, b2⟩, q0, q1, q2⟩ := res_facts (unhide HE6).lb
              have hz := (unhide HE6).lb.res.lt
              clear HT HP HE4 HE5 HJ HUN HCP HU
              go_wp2
              refine bodyPost_ret (v := .tuple #[.agg #[.int .i64 0, .slice none 0 0, .slice none 0 0], .bool false]) (by simp [results, Tryz.results50, go_sem, *]) rfl (.inr ⟨unhide HNO, rfl, put3S (unhide HE6).lb.bel _ _ _⟩)
          · have j0 : (f != 0) = true := by rw [bne_iff_ne]; exact hf
            have HNO := hide (unhide HNB (fun h => hf h.1))
            clear hf HNB
            obtain ⟨⟨b0, b1, b2⟩, q0, q1, q2⟩ := res_facts (unhide HE6).lb
            have hz := (unhide HE6).lb.res.lt
            clear HT HP HE4 HE5 HJ HUN HCP HU
            go_wp2
            refine bodyPost_ret (v := .tuple #[.agg #[.int .i64 0, .slice none 0 0, .slice none 0 0], .bool false]) (by simp [results, Tryz.results50, go_sem, *]) rfl (.inr ⟨unhide HNO, rfl, put3S (unhide HE6).lb.bel _ _ _⟩)
        · have hjk2 : j = k := by omega
          subst hjk2
          have ij : ¬ (j : Int) < (j : Int) := by omega
          have hres := (unhide HJ).lb.res
          have hxx : ∀ (u v x : Value) (i : Nat), i < wr.heap.size → i ≠ w.heap.size → ((((wr.setCell ⟨w.heap.size, 0, none⟩ u).setCell ⟨w.heap.size, 1, none⟩ v).setCell ⟨w.heap.size, 2, none⟩ x)).heap[i]? = wr.heap[i]? := fun u v x i hi hne => by
            rw [Below.heap_setCell _ _ _ _ (by simpa using hne), Below.heap_setCell _ _ _ _ (by simpa using hne), Below.heap_setCell _ _ _ _ (by simpa using hne)]
          obtain ⟨az, cz, rfl, hz, hzf⟩ := (unhide HJ).zones (hxx (.int .i64 (m : Int)) zv cv)
          obtain ⟨ac, cc, rfl, hc, hcf⟩ := (unhide HJ).cols (hxx (.int .i64 (m : Int)) (.slice az zs.length cz) cv)
          have g0 : wr.cell? ⟨G, 0, none⟩ = some (.int .i64 (m : Int)) := World.rowIs.cell (unhide HJ).g (i := 0) (by decide)
          have g1 : wr.cell? ⟨G, 1, none⟩ = some (.slice az zs.length cz) := World.rowIs.cell (unhide HJ).g (i := 1) (by decide)
          have g2 : wr.cell? ⟨G, 2, none⟩ = some (.slice ac Cs.length cc) := World.rowIs.cell (unhide HJ).g (i := 2) (by decide)
          obtain ⟨⟨b0, b1, b2⟩, q0, q1, q2⟩ := res_facts (unhide HJ).lb
          have hlt := hres.lt
          have HZ := hide hz
          have HC := hide hc
          have HFR : Hid (Free (((wr.setCell ⟨w.heap.size, 0, none⟩ (.int .i64 (m : Int))).setCell ⟨w.heap.size, 1, none⟩ (.slice az zs.length cz)).setCell ⟨w.heap.size, 2, none⟩ (.slice ac Cs.length cc)) w.heap.size az ac Cs) := ⟨hzf, hcf, (unhide HJ).owns (hxx (.int .i64 (m : Int)) (.slice az zs.length cz) (.slice ac Cs.length cc))⟩
          clear hzf hcf
          have HBL := hide (put3S (unhide HJ).lb.bel (.int .i64 (m : Int)) (.slice az zs.length cz) (.slice ac Cs.length cc))
          clear hz hc hres hxx
          go_wp2
          refine bodyPost_ret (v := .tuple #[.agg #[.int .i64 (m : Int), .slice az zs.length cz, .slice ac Cs.length cc], .bool true]) (by simp [results, Tryz.results50, go_sem, *]) rfl (.inl ⟨Cs, az, ac, cz, cc, ?_, ⟨?_, ?_, ?_, ?_⟩, ?_, unhide HC, unhide HFR, unhide HBL⟩)
          · rw [unhide HZL, unhide HCL, unhide HNN, unhide HRR]
          · rw [unhide HNN]; exact (unhide HN12).1
          · rw [unhide HNN]; exact (unhide HN12).2
          · rw [List.length_map, unhide HCL, unhide HNN]
          · intro i X hX
            rw [(unhide HEQ).1, (unhide HEQ).2.2, unhide HRR]
            exact unhide HU i X hX
          · rw [(unhide HEQ).2.1]; exact unhide HZ
end Go.Proofs.YtbdkpkpncmagoaaGreat
set_option linter.unusedSimpArgs false
set_option linter.unusedVariables false
set_option maxRecDepth 100000
namespace Go.Proofs.YtbdkpkpncmagoaaGreat
open Go.RowKit Go.Sort

theorem laidOut_any (l : List UInt8) (hl : l.length ≤ 140737488300000) (w : World) : Calls Tryz.prog 50 #[.string (bs l)] w fun e w' => LayQ w w' l e := by
  by_cases h1 : layN l < 1
  · exact laid_no l hl (.inl h1) w
  · by_cases h2 : 32 < layN l
    · exact laid_no l hl (.inr h2) w
    · exact laid_yes l hl (by omega) (by omega) w
theorem pb_uniq {X : Vc} (hg : goodB X = true) : ∀ (j : Nat) (b b' : ByteArray), PB X j b → PB X j b' → b = b'
  | 0, b, b', h, h' => (pw_one hg h h').1
  | j + 1, b, b', ⟨c, s, f, hc, hs, hb⟩, ⟨c', s', f', hc', hs', hb'⟩ => by
    obtain rfl := pb_uniq hg j c c' hc hc'
    obtain ⟨rfl, rfl⟩ := pw_one hg hs hs'
    rw [hb, hb']
theorem kp_one {X : Vc} (hg : goodB X = true) {s t : ByteArray} (h : KP X s) (h' : KP X t) : s = t := by
  rcases h with ⟨_, h⟩ | ⟨_, h, _⟩
  · rcases h' with ⟨_, h'⟩ | ⟨_, h', _⟩
    · exact pb_uniq hg 3 s t h h'
    · exact absurd rfl h'
  · exact absurd rfl h
theorem un_fit {l : List UInt8} {X : Vc} {rows : Nat} (h : UnR l X 0) (hl : X.nl.length = rows) : Fit rows X := by
  rcases h with ⟨_, ⟨sch, hc⟩, hf, h1, h2, h3⟩ | ⟨h, _⟩
  · obtain ⟨g1, g2, g3, g4, g5, g6, g7, g8⟩ := from_ok hf
    have hv := vals_len g1
    exact ⟨g1, hl, by omega, by omega, by omega, g8 fun x hx => ((read_col hc).2 x hx).2⟩
  · cases h
/-- A text is a segment: of these columns, which are packed so. -/
structure Seg (l : List UInt8) (Xs : List Vc) (ps : List (ByteArray × ByteArray)) : Prop where
  lay : Lay l Xs
  len : ps.length = Xs.length
  at_ : ∀ (i : Nat) (X : Vc) (p : ByteArray × ByteArray), Xs[i]? = some X → ps[i]? = some p → p.1 = zP X ∧ KP X p.2
  eq : segB Xs.length (layR l) ps = bs l
theorem Lay.fit {l : List UInt8} {Xs : List Vc} (h : Lay l Xs) {X : Vc} (hX : X ∈ Xs) : Fit (layR l) X := by
  obtain ⟨i, hi, e⟩ := List.mem_iff_getElem.1 hX
  obtain ⟨h1, h2⟩ := h.at_ i X (by rw [List.getElem?_eq_getElem hi, e])
  exact un_fit h1 h2
theorem Lay.rows {l : List UInt8} {Xs : List Vc} (h : Lay l Xs) : layR l ≤ 4096 := by
  have h1 := h.n1
  have h2 := h.len
  obtain ⟨X, hX⟩ : ∃ X, X ∈ Xs := by
    cases Xs with
    | nil => simp at h2; omega
    | cons X _ => exact ⟨X, List.mem_cons_self ..⟩
  exact (h.fit hX).le
theorem Lay.one {l : List UInt8} {Xs Ys : List Vc} (h : Lay l Xs) (h' : Lay l Ys) : Xs = Ys := by
  refine List.ext_getElem (h.len.trans h'.len.symm) fun i h1 h2 => ?_
  obtain ⟨u1, _⟩ := h.at_ i _ (List.getElem?_eq_getElem h1)
  obtain ⟨u2, _⟩ := h'.at_ i _ (List.getElem?_eq_getElem h2)
  exact (u1.one u2).1
theorem Seg.one {l : List UInt8} {Xs Ys : List Vc} {ps qs : List (ByteArray × ByteArray)} (h : Seg l Xs ps) (h' : Lay l Ys) (hl : qs.length = Ys.length) (ha : ∀ (i : Nat) (X : Vc) (p : ByteArray × ByteArray), Ys[i]? = some X → qs[i]? = some p → p.1 = zP X ∧ KP X p.2) : Ys = Xs ∧ qs = ps := by
  obtain rfl := h'.one h.lay
  refine ⟨rfl, List.ext_getElem (hl.trans h.len.symm) fun i h1 h2 => ?_⟩
  have hi : i < Ys.length := by omega
  obtain ⟨a1, a2⟩ := ha i _ _ (List.getElem?_eq_getElem hi) (List.getElem?_eq_getElem h1)
  obtain ⟨b1, b2⟩ := h.at_ i _ _ (List.getElem?_eq_getElem hi) (List.getElem?_eq_getElem h2)
  have hg := (h.lay.fit (List.getElem_mem hi)).good
  exact Prod.ext (a1.trans b1.symm) (kp_one hg a2 b2)
theorem seal_cut (t : ByteArray) : 4 ≤ (sealB t).size ∧ (sealB t).extract 0 ((sealB t).size - 4) = t := by
  have h4 : (toB (beL (sumB t : Nat) 4 4)).size = 4 := by rw [toB_size, beL_len]
  have hs : (sealB t).size = t.size + 4 := by unfold sealB; rw [ByteArray.size_append, h4]
  refine ⟨by omega, ?_⟩
  rw [hs, Nat.add_sub_cancel]
  unfold sealB
  apply ByteArray.ext
  simp [ByteArray.data_extract, ByteArray.data_append]
theorem Seg.sealed {l : List UInt8} {Xs : List Vc} {ps : List (ByteArray × ByteArray)} (h : Seg l Xs ps) : 4 ≤ (bs l).size ∧ sealB ((bs l).extract 0 ((bs l).size - 4)) = bs l := by
  rw [← h.eq]
  unfold segB
  obtain ⟨h1, h2⟩ := seal_cut (toB ((frontL Xs.length (layR l) ++ hdL ps) ++ bdL ps))
  exact ⟨h1, by rw [h2]⟩
theorem lis_outside {w1 w2 : World} {a : Option Addr} {cs : List Value} {m : Nat} (h : LisAt w1 a cs) (hf : ∀ ad, a = some ad → m ≤ ad.block) (hk : ∀ i, m ≤ i → i < w1.heap.size → w2.heap[i]? = w1.heap[i]?) : LisAt w2 a cs := by
  rcases h with e | ⟨b, off, e, hl⟩
  · exact .inl e
  · refine .inr ⟨b, off, e, fun i x hx => ?_⟩
    have hc := hl i x hx
    have hlt : b < w1.heap.size := World.block_lt_of_cell? _ _ hc
    rw [← hc]
    exact World.cell?_of_block (a := ⟨b, off + i, none⟩) (hk b (hf _ e) hlt)
theorem cols_outside {w1 w2 : World} {a : Option Addr} {Cs : List (Vc × Sl)} {m : Nat} (h : ColsAt w1 a Cs) (hf : ∀ ad, a = some ad → m ≤ ad.block) (hv : ∀ x ∈ Cs, Fresh m x.2) (hk : ∀ i, m ≤ i → i < w1.heap.size → w2.heap[i]? = w1.heap[i]?) : ColsAt w2 a Cs := by
  refine ⟨?_, fun x hx => vec_outside (h.2 x hx) (hv x hx) hk⟩
  rcases h.1 with e | ⟨b, off, e, hl⟩
  · exact .inl e
  · refine .inr ⟨b, off, e, fun i c hc => ?_⟩
    obtain ⟨c0, c1, c2, c3⟩ := hl i c hc
    have hlt : b < w1.heap.size := World.block_lt_of_cell? _ _ c0
    have key : ∀ j v, w1.cell? ⟨b, j, none⟩ = some v → w2.cell? ⟨b, j, none⟩ = some v := fun j v hj => by
      rw [← hj]; exact World.cell?_of_block (a := ⟨b, j, none⟩) (hk b (hf _ e) hlt)
    exact ⟨key _ _ c0, key _ _ c1, key _ _ c2, key _ _ c3⟩
theorem Free.later {w w' : World} {n : Nat} {az ac : Option Addr} {Cs : List (Vc × Sl)} (h : Free w n az ac Cs) (hb : Below w.heap.size w w') : Free w' n az ac Cs := ⟨h.z, h.c, fun x hx => (h.v x hx).later hb⟩
theorem Free.outside {w w' : World} {n : Nat} {az ac : Option Addr} {Cs : List (Vc × Sl)} (h : Free w n az ac Cs) (hk : ∀ g, n ≤ g → g < w.heap.size → w'.heap[g]? = w.heap[g]?) : Free w' n az ac Cs := ⟨h.z, h.c, fun x hx => (h.v x hx).outside (Nat.le_refl _) hk⟩
theorem Free.less {w : World} {n m : Nat} {az ac : Option Addr} {Cs : List (Vc × Sl)} (h : Free w n az ac Cs) (hm : m ≤ n) : Free w m az ac Cs :=
  ⟨fun ad e => Nat.le_trans hm (h.z ad e), fun ad e => Nat.le_trans hm (h.c ad e), fun x hx => (h.v x hx).less hm⟩
/-- What opened answers. -/
def OpQ (w w' : World) (l : List UInt8) (e : Ending) : Prop :=
  (∃ (Cs : List (Vc × Sl)) (ps : List (ByteArray × ByteArray)) (az ac : Option Addr) (cz cc : Nat), e = .returned (.tuple #[.agg #[.int .i64 (layR l : Int), .slice az (layN l) cz, .slice ac (layN l) cc], .int .i64 0]) ∧ Seg l (Cs.map Prod.fst) ps ∧ LisAt w' az ((layZ l).map Value.string) ∧ ColsAt w' ac Cs ∧ Free w' w.heap.size az ac Cs ∧ Below w.heap.size w w') ∨
  ((∀ Xs ps, ¬ Seg l Xs ps) ∧ e = .returned (.tuple #[.agg #[.int .i64 0, .slice none 0 0, .slice none 0 0], .int .i64 2]) ∧ Below w.heap.size w w')
theorem seg3_alloc (w : World) (r : Int) (z c : Value) : (w.alloc (.cells #[.int .i64 r, z, c] 67)).rowIs w.heap.size 67 3 (seg3 r z c) := World.rowIs_alloc w _ 67 _ (fun i hi => by
    match i, hi with
    | 0, _ => rfl
    | 1, _ => rfl
    | 2, _ => rfl
    | n + 3, h => have : n + 3 < 3 := h; omega)
theorem seg3_facts {w : World} {b : Nat} {r : Int} {z c : Value} (h : w.rowIs b 67 3 (seg3 r z c)) : (w.cell? ⟨b, 0, none⟩ = some (.int .i64 r) ∧ w.cell? ⟨b, 1, none⟩ = some z ∧ w.cell? ⟨b, 2, none⟩ = some c) ∧ w.frozen? ⟨b, 0, none⟩ = false ∧ w.frozen? ⟨b, 1, none⟩ = false ∧ w.frozen? ⟨b, 2, none⟩ = false :=
  ⟨⟨World.rowIs.cell h (i := 0) (by decide), World.rowIs.cell h (i := 1) (by decide), World.rowIs.cell h (i := 2) (by decide)⟩, World.rowIs.frozen h 0, World.rowIs.frozen h 1, World.rowIs.frozen h 2⟩
set_option maxHeartbeats 4000000 in
set_option maxRecDepth 100000 in
theorem sopened_any (l : List UInt8) (hl : l.length ≤ 140737488300000) (w : World) : Calls Tryz.prog 30 #[.string (bs l)] w fun e w' => OpQ w w' l e := by
  have HI := hide (fun W => isSealed_any (bs l) (by rw [bs_size]; exact hl) W)
  have HA := hide (seg3_alloc w 0 noSl noSl)
  obtain ⟨b, hb⟩ : ∃ b, (decide (4 ≤ (bs l).size) && decide (sealB ((bs l).extract 0 ((bs l).size - 4)) = bs l)) = b := ⟨_, rfl⟩
  have HB := hide hb
  rw [hb] at HI
  clear hb
  cases b
  · have HNO : Hid (∀ Xs ps, ¬ Seg l Xs ps) := fun Xs ps h => by
      have h1 := h.sealed
      have h2 := unhide HB
      rw [decide_eq_true h1.1, decide_eq_true h1.2] at h2
      cases h2
    go_enter Tryz.func30, Tryz.ntmps30
    go_wp2_with (go_at_call 49; refine (unhide HI _).mono ?_; rintro _ w1 ⟨rfl, hb1⟩; have hA1 := rowIs_later (unhide HA) hb1; obtain ⟨⟨a0, a1, a2⟩, q0, q1, q2⟩ := seg3_facts hA1; have hz := hA1.lt; have HB1 := hide (below_step (below_alloc (Below.refl _ w) _) hb1); clear hA1 hb1)
    refine bodyPost_ret (v := .tuple #[.agg #[.int .i64 0, .slice none 0 0, .slice none 0 0], .int .i64 2]) (by simp [results, Tryz.results30, go_sem, *]) rfl (.inr ⟨unhide HNO, rfl, put3S (unhide HB1) _ _ _⟩)
  · clear HB
    by_cases hL : ∃ Xs, Lay l Xs
    · obtain ⟨Xs, hX⟩ := hL
      have HL : Hid (∀ W, Calls Tryz.prog 50 #[.string (bs l)] W fun e w' => ∃ (Cs : List (Vc × Sl)) (az ac : Option Addr) (cz cc : Nat), e = .returned (.tuple #[.agg #[.int .i64 (layR l : Int), .slice az (layN l) cz, .slice ac (layN l) cc], .bool true]) ∧ Lay l (Cs.map Prod.fst) ∧ LisAt w' az ((layZ l).map Value.string) ∧ ColsAt w' ac Cs ∧ Free w' W.heap.size az ac Cs ∧ Below W.heap.size W w') := fun W => by
        refine (laidOut_any l hl W).mono ?_
        rintro e w' (h | ⟨h, _⟩)
        · exact h
        · exact absurd hX (h Xs)
      have HW : Hid (∀ W ac cc (Cs : List (Vc × Sl)), Lay l (Cs.map Prod.fst) → ColsAt W ac Cs → Calls Tryz.prog 28 #[.slice ac (layN l) cc] W fun e w' => ∃ ps, e = .returned (.string (segB Cs.length (layR l) ps)) ∧ Hid (Ps KP zP Cs ps) ∧ Below W.heap.size W w') := fun W ac cc Cs h1 h2 => by
        have hl1 := h1.len
        have n1 := h1.n1
        have n2 := h1.n2
        rw [List.length_map] at hl1
        have := swritten_any KP zP (layR l) h1.rows ac cc Cs W (by omega) (by omega) (fun x hx => (h1.fit (List.mem_map_of_mem hx)).law) h2
        rw [hl1] at this ⊢
        exact this
      have HPS : Hid (∀ (Cs : List (Vc × Sl)) ps, Ps KP zP Cs ps → ps.length = (Cs.map Prod.fst).length ∧ ∀ (i : Nat) (X : Vc) (p : ByteArray × ByteArray), (Cs.map Prod.fst)[i]? = some X → ps[i]? = some p → p.1 = zP X ∧ KP X p.2) := fun Cs ps h => ⟨by rw [List.length_map]; exact h.len, fun i X p h1 h2 => by
        rw [List.getElem?_map] at h1
        cases hc : Cs[i]? with
        | none => rw [hc] at h1; cases h1
        | some c =>
          rw [hc] at h1
          simp at h1
          subst h1
          exact h.at_ i c p hc h2⟩
      by_cases hS : ∃ ps, Seg l Xs ps
      · obtain ⟨ps, hS⟩ := hS
        have HW2 : Hid (∀ W ac cc (Cs : List (Vc × Sl)), Lay l (Cs.map Prod.fst) → ColsAt W ac Cs → Calls Tryz.prog 28 #[.slice ac (layN l) cc] W fun e w' => e = .returned (.string (bs l)) ∧ Seg l (Cs.map Prod.fst) ps ∧ Below W.heap.size W w') := fun W ac cc Cs h1 h2 => by
          refine (unhide HW W ac cc Cs h1 h2).mono ?_
          rintro e w' ⟨qs, rfl, hq, hb⟩
          obtain ⟨p1, p2⟩ := unhide HPS Cs qs (unhide hq)
          obtain ⟨e1, rfl⟩ := hS.one h1 p1 p2
          rw [e1]
          refine ⟨?_, hS, hb⟩
          have := hS.eq
          rw [← e1, List.length_map] at this
          rw [this]
        clear HW HPS hX
        have HSS := hide hS
        clear hS
        go_enter Tryz.func30, Tryz.ntmps30
        go_wp2_with (first
          | (go_at_call 49; refine (unhide HI _).mono ?_; rintro _ w1 ⟨rfl, hb1⟩; have HA1 := hide (rowIs_later (unhide HA) hb1); have HB1 := hide (below_step (below_alloc (Below.refl _ w) _) hb1); clear hb1)
          | (go_at_call 50; refine (unhide HL _).mono ?_; rintro _ w2 ⟨Cs, az, ac, cz, cc, rfl, h1, h2, h3, hfr, hb2⟩; have HFR0 := hide (hfr.later (below_alloc (Below.refl _ w2) (.cells #[.int .i64 (layR l : Int), .slice az (layN l) cz, .slice ac (layN l) cc] 67))); have HA2 := hide ((rowIs_later (unhide HA1) hb2).alloc (.cells #[.int .i64 (layR l : Int), .slice az (layN l) cz, .slice ac (layN l) cc] 67)); have HG2 := hide (seg3_alloc w2 (layR l : Int) (.slice az (layN l) cz) (.slice ac (layN l) cc)); have hbA := below_alloc (Below.refl _ w2) (.cells #[.int .i64 (layR l : Int), .slice az (layN l) cz, .slice ac (layN l) cc] 67); have HC2 := hide (And.intro h1 (And.intro (h2.later hbA) (h3.later hbA))); have HB2 := hide (below_step (below_step (unhide HB1) hb2) hbA); have hg2 := (seg3_facts (unhide HG2)).1.2.2; clear h1 h2 h3 hb2 hbA hfr)
          | (go_at_call 28; refine (unhide HW2 _ _ _ Cs (unhide HC2).1 (unhide HC2).2.2).mono ?_; rintro _ w3 ⟨rfl, h4, hb3⟩; have HFR := hide ((unhide HFR0).later hb3); have hA3 := rowIs_later (unhide HA2) hb3; have hG3 := rowIs_later (unhide HG2) hb3; obtain ⟨⟨a0, a1, a2⟩, q0, q1, q2⟩ := seg3_facts hA3; obtain ⟨⟨g0, g1, g2⟩, _⟩ := seg3_facts hG3; have hz := hA3.lt; have HB3 := hide (below_step (unhide HB2) hb3); have HC3 := hide (And.intro ((unhide HC2).2.1.later hb3) ((unhide HC2).2.2.later hb3)); have HS4 := hide h4; clear hA3 hG3 h4 hb3))
        have hxx : ∀ (u v x : Value) (i : Nat), w1.heap.size ≤ i → i < w3.heap.size → ((((w3.setCell ⟨w.heap.size, 0, none⟩ u).setCell ⟨w.heap.size, 1, none⟩ v).setCell ⟨w.heap.size, 2, none⟩ x)).heap[i]? = w3.heap[i]? := fun u v x i hi _ => by
          have := (unhide HA1).lt
          have hne : i ≠ w.heap.size := by omega
          rw [Below.heap_setCell _ _ _ _ (by simpa using hne), Below.heap_setCell _ _ _ _ (by simpa using hne), Below.heap_setCell _ _ _ _ (by simpa using hne)]
        have hlw : w.heap.size ≤ w1.heap.size := (unhide HB1).size
        refine bodyPost_ret (v := .tuple #[.agg #[.int .i64 (layR l : Int), .slice az (layN l) cz, .slice ac (layN l) cc], .int .i64 0]) (by simp [results, Tryz.results30, go_sem, *]) rfl (.inl ⟨Cs, ps, az, ac, cz, cc, rfl, unhide HS4, lis_outside (unhide HC3).1 (unhide HFR).z (hxx _ _ _), cols_outside (unhide HC3).2 (unhide HFR).c (fun x hx => ((unhide HFR).v x hx).fresh) (hxx _ _ _), ((unhide HFR).outside (hxx _ _ _)).less hlw, put3S (unhide HB3) _ _ _⟩)
      · have HW2 : Hid (∀ W ac cc (Cs : List (Vc × Sl)), Lay l (Cs.map Prod.fst) → ColsAt W ac Cs → Calls Tryz.prog 28 #[.slice ac (layN l) cc] W fun e w' => ∃ t, e = .returned (.string t) ∧ (t.toList == (bs l).toList) = false ∧ Below W.heap.size W w') := fun W ac cc Cs h1 h2 => by
          refine (unhide HW W ac cc Cs h1 h2).mono ?_
          rintro e w' ⟨qs, rfl, hq, hb⟩
          obtain ⟨p1, p2⟩ := unhide HPS Cs qs (unhide hq)
          obtain rfl := h1.one hX
          refine ⟨_, rfl, ?_, hb⟩
          rw [beq_text]
          refine decide_eq_false fun e => hS ⟨qs, h1, p1, p2, ?_⟩
          rw [List.length_map]
          exact e
        have HNO : Hid (∀ Xs ps, ¬ Seg l Xs ps) := fun Ys qs h => hS ⟨qs, by rw [hX.one h.lay]; exact h⟩
        clear HW HPS hX hS
        go_enter Tryz.func30, Tryz.ntmps30
        go_wp2_with (first
          | (go_at_call 49; refine (unhide HI _).mono ?_; rintro _ w1 ⟨rfl, hb1⟩; have HA1 := hide (rowIs_later (unhide HA) hb1); have HB1 := hide (below_step (below_alloc (Below.refl _ w) _) hb1); clear hb1)
          | (go_at_call 50; refine (unhide HL _).mono ?_; rintro _ w2 ⟨Cs, az, ac, cz, cc, rfl, h1, h2, h3, hfr, hb2⟩; have HA2 := hide ((rowIs_later (unhide HA1) hb2).alloc (.cells #[.int .i64 (layR l : Int), .slice az (layN l) cz, .slice ac (layN l) cc] 67)); have HG2 := hide (seg3_alloc w2 (layR l : Int) (.slice az (layN l) cz) (.slice ac (layN l) cc)); have hbA := below_alloc (Below.refl _ w2) (.cells #[.int .i64 (layR l : Int), .slice az (layN l) cz, .slice ac (layN l) cc] 67); have HC2 := hide (And.intro h1 (h3.later hbA)); have HB2 := hide (below_step (below_step (unhide HB1) hb2) hbA); have hg2 := (seg3_facts (unhide HG2)).1.2.2; clear h1 h2 h3 hb2 hbA hfr)
          | (go_at_call 28; refine (unhide HW2 _ _ _ Cs (unhide HC2).1 (unhide HC2).2).mono ?_; rintro _ w3 ⟨tt, rfl, h4, hb3⟩; have hA3 := rowIs_later (unhide HA2) hb3; obtain ⟨⟨a0, a1, a2⟩, q0, q1, q2⟩ := seg3_facts hA3; have hz := hA3.lt; have HB3 := hide (below_step (unhide HB2) hb3); clear hA3 hb3))
        refine bodyPost_ret (v := .tuple #[.agg #[.int .i64 0, .slice none 0 0, .slice none 0 0], .int .i64 2]) (by simp [results, Tryz.results30, go_sem, *]) rfl (.inr ⟨unhide HNO, rfl, put3S (unhide HB3) _ _ _⟩)
    · have HL : Hid (∀ W, Calls Tryz.prog 50 #[.string (bs l)] W fun e w' => e = .returned (.tuple #[.agg #[.int .i64 0, .slice none 0 0, .slice none 0 0], .bool false]) ∧ Below W.heap.size W w') := fun W => by
        refine (laidOut_any l hl W).mono ?_
        rintro e w' (⟨Cs, _, _, _, _, _, h, _⟩ | ⟨_, h⟩)
        · exact absurd ⟨_, h⟩ hL
        · exact h
      have HNO : Hid (∀ Xs ps, ¬ Seg l Xs ps) := fun Xs ps h => hL ⟨Xs, h.lay⟩
      clear hL
      go_enter Tryz.func30, Tryz.ntmps30
      go_wp2_with (first
        | (go_at_call 49; refine (unhide HI _).mono ?_; rintro _ w1 ⟨rfl, hb1⟩; have HA1 := hide (rowIs_later (unhide HA) hb1); have HB1 := hide (below_step (below_alloc (Below.refl _ w) _) hb1); clear hb1)
        | (go_at_call 50; refine (unhide HL _).mono ?_; rintro _ w2 ⟨rfl, hb2⟩; have hA2 := rowIs_later (unhide HA1) hb2; obtain ⟨⟨a0, a1, a2⟩, q0, q1, q2⟩ := seg3_facts hA2; have hz := hA2.lt; have HB2 := hide (below_step (unhide HB1) hb2); clear hb2 hA2))
      refine bodyPost_ret (v := .tuple #[.agg #[.int .i64 0, .slice none 0 0, .slice none 0 0], .int .i64 2]) (by simp [results, Tryz.results30, go_sem, *]) rfl (.inr ⟨unhide HNO, rfl, below_alloc (put3S (unhide HB2) _ _ _) _⟩)
end Go.Proofs.YtbdkpkpncmagoaaGreat
set_option linter.unusedSimpArgs false
set_option linter.unusedVariables false
set_option maxRecDepth 100000
namespace Go.Proofs.YtbdkpkpncmagoaaGreat
open Go.RowKit Go.Sort

theorem sop_yes {l : List UInt8} (hl : l.length ≤ 140737488300000) {Xs : List Vc} {ps : List (ByteArray × ByteArray)} (h : Seg l Xs ps) (w : World) :
    Calls Tryz.prog 30 #[.string (bs l)] w fun e w' => ∃ (Cs : List (Vc × Sl)) (az ac : Option Addr) (cz cc : Nat), e = .returned (.tuple #[.agg #[.int .i64 (layR l : Int), .slice az (layN l) cz, .slice ac (layN l) cc], .int .i64 0]) ∧ Cs.map Prod.fst = Xs ∧ LisAt w' az ((layZ l).map Value.string) ∧ ColsAt w' ac Cs ∧ Free w' w.heap.size az ac Cs ∧ Below w.heap.size w w' := by
  refine (sopened_any l hl w).mono ?_
  rintro e w' (⟨Cs, qs, az, ac, cz, cc, he, hs, h1, h2, h3, h4⟩ | ⟨hn, _⟩)
  · exact ⟨Cs, az, ac, cz, cc, he, hs.lay.one h.lay, h1, h2, h3, h4⟩
  · exact absurd h (hn _ _)
set_option maxRecDepth 100000 in
theorem scols_yes {l : List UInt8} (hl : l.length ≤ 140737488300000) {Xs : List Vc} {ps : List (ByteArray × ByteArray)} (h : Seg l Xs ps) (w : World) : Calls Tryz.prog 33 #[.string (bs l)] w fun e w' => ∃ (Cs : List (Vc × Sl)) (ac : Option Addr) (cc : Nat), e = .returned (.tuple #[.slice ac (layN l) cc, .int .i64 0]) ∧ Cs.map Prod.fst = Xs ∧ ColsAt w' ac Cs ∧ (∀ ad, ac = some ad → w.heap.size ≤ ad.block) ∧ (∀ x ∈ Cs, Own3 w' w.heap.size x.1 x.2) ∧ Below w.heap.size w w' := by
  have HO := hide (fun W => sop_yes hl h W)
  clear h
  go_enter Tryz.func33, Tryz.ntmps33
  go_wp2_with (go_at_call 30; refine (unhide HO _).mono ?_; rintro _ w1 ⟨Cs, az, ac, cz, cc, rfl, hx, -, hc, hf, hb⟩; have HX := hide hx; have HC := hide hc; clear hx hc)
  go_ret2
  exact ⟨Cs, ac, cc, rfl, unhide HX, (unhide HC).later (below_alloc (Below.refl _ _) _), hf.c, fun x hx => (hf.v x hx).later (below_alloc (Below.refl _ _) _), below_alloc hb _⟩
theorem cols_at {w : World} {a : Option Addr} {Cs : List (Vc × Sl)} (h : ColsAt w a Cs) {k : Nat} {c : Vc × Sl} (hc : Cs[k]? = some c) : ∃ b off, a = some ⟨b, off, none⟩ ∧ ColAt w b (off + k * 4) c.1 c.2 := by
  rcases h.1 with e | ⟨b, off, e, h1⟩
  · subst e; simp at hc
  · exact ⟨b, off, e, h1 k c hc⟩
set_option maxRecDepth 100000 in
theorem scolumn_ok {l : List UInt8} (hl : l.length ≤ 140737488300000) {Xs : List Vc} {ps : List (ByteArray × ByteArray)} (h : Seg l Xs ps) (k : Nat) {X : Vc} (hX : Xs[k]? = some X) (w : World) : Calls Tryz.prog 16 #[.string (bs l), .int .i64 (k : Int)] w fun e w' => ∃ p, e = .returned (.tuple #[vecV X p, .int .i64 0]) ∧ VecAt w' X p ∧ Own3 w' w.heap.size X p ∧ Below w.heap.size w w' := by
  have hk : k < layN l := by rw [← h.lay.len]; exact (List.getElem?_eq_some_iff.1 hX).1
  have HO : Hid (∀ W, Calls Tryz.prog 33 #[.string (bs l)] W fun e w' => ∃ (b off cc : Nat) (p : Sl), e = .returned (.tuple #[.slice (some ⟨b, off, none⟩) (layN l) cc, .int .i64 0]) ∧ ColAt w' b (off + k * 4) X p ∧ VecAt w' X p ∧ Own3 w' W.heap.size X p ∧ W.heap.size ≤ b ∧ Below W.heap.size W w') := fun W => by
    refine (scols_yes hl h W).mono ?_
    rintro e w' ⟨Cs, ac, cc, rfl, hx, hc, hf, hv, hb⟩
    obtain ⟨c, hck, hcX⟩ : ∃ c, Cs[k]? = some c ∧ c.1 = X := by
      rw [← hx, List.getElem?_map] at hX
      cases hq : Cs[k]? with
      | none => rw [hq] at hX; cases hX
      | some c => rw [hq] at hX; simp at hX; exact ⟨c, rfl, hX⟩
    obtain ⟨b, off, rfl, hca⟩ := cols_at hc hck
    subst hcX
    exact ⟨b, off, cc, c.2, rfl, hca, hc.2 c (List.mem_of_getElem? hck), hv c (List.mem_of_getElem? hck), hf _ rfl, hb⟩
  obtain ⟨n, hn⟩ : ∃ n, layN l = n := ⟨_, rfl⟩
  rw [hn] at HO hk
  clear h hn hX
  have h0 : ¬ (k : Int) < 0 := by omega
  have h1 : ¬ (n : Int) ≤ (k : Int) := by omega
  have h2 : (k : Int) < (n : Int) := by omega
  go_enter Tryz.func16, Tryz.ntmps16
  go_wp2_with (go_at_call 33; refine (unhide HO _).mono ?_; rintro _ w1 ⟨b, off, cc, p, rfl, ⟨c0, c1, c2, c3⟩, hv, hf, hbb, hb⟩; obtain ⟨⟨b0, b1, b2, b3⟩, q0, q1, q2, q3⟩ := zero26_facts hb; have HB := hide (below_one hb); have HV := hide (And.intro hv hf); clear hb hv hf hbb)
  have hxx : ∀ (u v x y : Value) (i : Nat), (w.alloc zero26).heap.size ≤ i → i < w1.heap.size → (((((w1.setCell ⟨w.heap.size, 0, none⟩ u).setCell ⟨w.heap.size, 1, none⟩ v).setCell ⟨w.heap.size, 2, none⟩ x).setCell ⟨w.heap.size, 3, none⟩ y)).heap[i]? = w1.heap[i]? := fun u v x y i hi _ => by
    have e : (w.alloc zero26).heap.size = w.heap.size + 1 := by simp
    have hne : i ≠ w.heap.size := by omega
    rw [Below.heap_setCell _ _ _ _ (by simpa using hne), Below.heap_setCell _ _ _ _ (by simpa using hne), Below.heap_setCell _ _ _ _ (by simpa using hne), Below.heap_setCell _ _ _ _ (by simpa using hne)]
  refine bodyPost_ret (v := .tuple #[vecV X p, .int .i64 0]) (by simp [results, Tryz.results16, go_sem, vecV, *]) rfl ⟨p, rfl, vec_outside (unhide HV).1 (unhide HV).2.fresh (hxx _ _ _ _), ((unhide HV).2.outside (Nat.le_refl _) (hxx _ _ _ _)).less (by simp), put4 (unhide HB) _ _ _ _⟩
/-- What Kinds answers. -/
def KindsQ (w w' : World) (Xs : List Vc) (e : Ending) : Prop := ∃ a c, e = .returned (.slice a Xs.length c) ∧ LisAt w' a (Xs.map fun X => Value.int .i64 X.k) ∧ w'.ownsRow w.heap.size 3 1 (.slice a Xs.length c) Xs.length (Xs.map fun X => Value.int .i64 X.k) ∧ Below w.heap.size w w'
def kF (Xs : List Vc) (j : Nat) (i : Nat) : Value := .int .i64 (if i < j then (Xs.getD i .zero).k else 0)
set_option maxHeartbeats 1000000 in
set_option maxRecDepth 100000 in
theorem skinds_yes {l : List UInt8} (hl : l.length ≤ 140737488300000) {Xs : List Vc} {ps : List (ByteArray × ByteArray)} (h : Seg l Xs ps) (w : World) : Calls Tryz.prog 15 #[.string (bs l)] w fun e w' => KindsQ w w' Xs e := by
  obtain ⟨i3, hi3, z30, z31, z32⟩ := info_parts Tryz.info3'
  have HO := hide (fun W => sop_yes hl h W)
  have hn := h.lay.len
  have h32 := h.lay.n2
  rw [← hn] at h32
  rw [← hn] at HO
  have HN := hide hn
  obtain ⟨n, hnn⟩ : ∃ n, Xs.length = n := ⟨_, rfl⟩
  rw [hnn] at HO h32
  have HNN := hide hnn
  clear h hn hnn
  have i32 : (n : Int) ≤ 32 := by omega
  go_enter Tryz.func15, Tryz.ntmps15
  go_wp2_with (first
    | (go_at_call 30; refine (unhide HO _).mono ?_; rintro _ w1 ⟨Cs, az, ac, cz, cc, rfl, hx, -, hc, -, hb⟩; have HX := hide hx; have HC := hide (hc.later (below_alloc (Below.refl _ _) (.cells #[.int .i64 (layR l : Int), .slice az n cz, .slice ac n cc] 67))); have HB := hide (below_alloc hb (.cells #[.int .i64 (layR l : Int), .slice az n cz, .slice ac n cc] 67)); clear hx hc hb)
    | (at_make; refine wpList_make_row _ rfl (.tmp 15) (.tmp 15) 22 rfl 3 i3 (.int .i64 0) Tryz.underlying22 hi3 z30 z31 rfl .i64 .i64 n rfl rfl (by rw [z32]; omega) (by omega) ?_))
  have hS := World.rowIs_made (w1.alloc (.cells #[.int .i64 (layR l : Int), .slice az n cz, .slice ac n cc] 67)) (.int .i64 0) n 3
  rw [show (w1.alloc (.cells #[.int .i64 (layR l : Int), .slice az n cz, .slice ac n cc] 67)).heap.size = w1.heap.size + 1 by simp] at hS
  have hb2 := below_alloc (Below.refl _ (w1.alloc (.cells #[.int .i64 (layR l : Int), .slice az n cz, .slice ac n cc] 67))) (.cells (madeCells #[.int .i64 0] n) 3)
  obtain ⟨w2, hw2⟩ : ∃ w2, w1.alloc (.cells #[.int .i64 (layR l : Int), .slice az n cz, .slice ac n cc] 67) = w2 := ⟨_, rfl⟩
  have hsz : w2.heap.size = w1.heap.size + 1 := by rw [← hw2]; simp
  rw [hw2] at HC HB hS hb2 ⊢
  obtain ⟨w3, hw3⟩ : ∃ w3, w2.alloc (.cells (madeCells #[.int .i64 0] n) 3) = w3 := ⟨_, rfl⟩
  rw [hw3] at hS hb2 ⊢
  obtain ⟨S, hSS⟩ : ∃ S, w1.heap.size + 1 = S := ⟨_, rfl⟩
  rw [hSS] at hS hsz ⊢
  have HSZ := hide hsz
  have HST : Hid (w3.rowIs S 3 n (kF Xs 0) ∧ Below w2.heap.size w2 w3) := ⟨World.rowIs.congr hS (fun i hi => by simp [kF]), hb2⟩
  clear hS hb2 hw2 hw3 hSS hsz
  go_loopw [20] (fun s wr => ∃ j : Nat, j ≤ n ∧ s = .int .i64 (j : Int) ∧ Hid (wr.rowIs S 3 n (kF Xs j) ∧ Below w2.heap.size w2 wr)) (fun s _ => n - (intOf s).toNat)
  case atStart => exact ⟨0, Nat.zero_le _, rfl, HST⟩
  case round =>
    obtain ⟨j, hj, rfl, HJ⟩ := hrel
    clear HST
    by_cases hjn : j < n
    · have ij : (j : Int) < (n : Int) := by omega
      have hlen : Cs.length = n := by rw [← unhide HNN, ← unhide HX, List.length_map]
      obtain ⟨c, hc⟩ : ∃ c, Cs[j]? = some c := ⟨_, List.getElem?_eq_getElem (by omega)⟩
      obtain ⟨b, off, rfl, c0, c1, c2, c3⟩ := cols_at ((unhide HC).later (unhide HJ).2) hc
      obtain ⟨q, hq⟩ : ∃ q, off + j * 4 = q := ⟨_, rfl⟩
      rw [hq] at c0 c1 c2 c3
      have hXj : (Xs.getD j .zero).k = c.1.k := by
        rw [← unhide HX]
        simp [List.getD, hc]
      have qS := World.rowIs.cell (unhide HJ).1 (i := j) hjn
      have qF : wr.frozen? ⟨S, j, none⟩ = false := World.rowIs.frozen (unhide HJ).1 j
      have hSl := (unhide HJ).1.lt
      have HXJ := hide hXj
      clear hXj hc hlen
      go_wp2
      go_roundw
      case rel =>
        refine ⟨j + 1, by omega, by go_num, ?_⟩
        refine ⟨?_, ?_⟩
        · refine World.rowIs.alloc (World.rowIs.congr ((unhide HJ).1.set j _) (fun i hi => ?_)) _
          by_cases e : i = j
          · subst e
            simp only [if_true, kF, Nat.lt_succ_self, unhide HXJ]
          · simp only [e, if_false, kF]
            by_cases hij : i < j
            · simp [hij, show i < j + 1 by omega]
            · simp [hij, show ¬ i < j + 1 by omega]
        · exact below_alloc ((unhide HJ).2.setCell (by have := unhide HSZ; simp; omega) _) _
      case measure => first | (simp [intOf]; omega) | (simp only [intOf]; omega)
    · have hjn2 : j = n := by omega
      subst hjn2
      have ij : ¬ (j : Int) < (j : Int) := by omega
      go_wp2
      go_ret
      have hown : wr.ownsRow w.heap.size 3 1 (.slice (some ⟨S, 0, none⟩) j j) j (Xs.map fun X => Value.int .i64 X.k) := by
        refine own1_of_row (unhide HJ).1 (by rw [List.length_map, unhide HNN]) (fun i x hij hi => ?_) (by have := unhide HSZ; have := (unhide HB).size; omega) (by unfold maxLen; omega)
        rw [List.getElem?_map] at hi
        cases hq : Xs[i]? with
        | none => rw [hq] at hi; cases hi
        | some X =>
          rw [hq] at hi
          simp at hi

          rw [← hi]
          simp [kF, hij, List.getD, hq]
      refine ⟨some ⟨S, 0, none⟩, j, by rw [unhide HNN]; rfl, ?_, by rw [unhide HNN]; exact hown, below_step (unhide HB) (unhide HJ).2⟩
      refine .inr ⟨S, 0, rfl, fun i x hx => ?_⟩
      rw [List.getElem?_map] at hx
      cases hq : Xs[i]? with
      | none => rw [hq] at hx; cases hx
      | some X =>
        rw [hq] at hx
        simp at hx
        have hi : i < j := by rw [← unhide HNN]; exact (List.getElem?_eq_some_iff.1 hq).1
        have := World.rowIs.cell (unhide HJ).1 (i := i) hi
        rw [Nat.zero_add, this, ← hx]
        simp [kF, hi, List.getD, hq]
end Go.Proofs.YtbdkpkpncmagoaaGreat

import Derived.Test.YtbcodfbcmkdmgabGreatRyO
import Derived.Test.YtbcodfbcmkdmgabGreatRyQ1
set_option linter.unusedSimpArgs false
set_option linter.unusedVariables false
namespace Go.Proofs.YtbcodfbcmkdmgabGreat
open Go.RowKit Go.Sort

set_option maxHeartbeats 2000000 in
set_option maxRecDepth 100000 in
theorem unpack_main2 {c0 c1 n0 n1 n2 n3 z : UInt8} {tl L : List UInt8} {w : World} (hL : L = c0 :: c1 :: n0 :: n1 :: n2 :: n3 :: z :: tl) (hs : 1 ≤ c0.toNat ∧ c0.toNat ≤ 4) (hk : c1.toNat = 2) (hn : beV [n0, n1, n2, n3] ≤ 4096) (hz : z.toNat ≤ 1) (hl : L.length ≤ 140737488355328) :
    Calls Tryz.prog 11 #[.string (bs L)] w fun e w' => UnQ w w' L e := by
  obtain ⟨i6, hi6, z60, z61, z62⟩ := info_parts Tryz.info65
  obtain ⟨i4, hi4, z40, z41, z42⟩ := info_parts Tryz.info37
  obtain ⟨n, hne⟩ : ∃ n, n = beV [n0, n1, n2, n3] := ⟨_, rfl⟩
  rw [← hne] at hn
  obtain ⟨hql, hq2, hqr⟩ := nulQ_facts z.toNat n tl
  obtain ⟨ks, r, x, hq⟩ : ∃ ks r x, nulQ z.toNat n tl = (ks, r, x) := ⟨_, _, _, rfl⟩
  rw [hq] at hql hq2 hqr
  replace hql : ks.length = n := hql
  replace hq2 : ∀ k ∈ ks, k < 2 := hq2
  replace hqr : r.length ≤ tl.length := hqr
  obtain ⟨m, hm⟩ : ∃ m, m = (ks.map (· == 1)).count false := ⟨_, rfl⟩
  obtain ⟨vs, r2, x2, hv⟩ : ∃ vs r2 x2, standQ c0.toNat (c1.toNat : Int) m r x = (vs, r2, x2) := ⟨_, _, _, rfl⟩
  have HSOME := hide (fun sch kind xs => un_some (sch := sch) (kind := kind) (xs := xs) hL hne hq hm hv)
  have HRNG : Hid (∀ x ∈ spreadL (ks.map (· == 1)) vs, Rng x) := spread_rng _ _ (by have := standQ_rng c0.toNat (c1.toNat : Int) m r x; rw [hv] at this; exact this)
  have hmn : m ≤ n := by rw [hm, ← hql]; exact Nat.le_trans List.count_le_length (by simp)
  have hlen : L.length = tl.length + 7 := by rw [hL]; rfl
  obtain ⟨N7, hN7⟩ : ∃ N7, N7 = tl.length + 7 := ⟨_, rfl⟩
  have hsz : (bs L).size = N7 := by rw [bs_size, hlen, hN7]
  have h7 : ¬ (N7 : Int) < 7 := by omega
  have h67 : ¬ (N7 : Int) < 6 := by omega
  have g0 : L[0]? = some c0 := by rw [hL]; rfl
  have g1 : L[1]? = some c1 := by rw [hL]; rfl
  have g6 : L[6]? = some z := by rw [hL]; rfl
  have kx0 : ∀ W, (Instr.index 9 (.string (bs L)) (.int .i64 0)).run Tryz.prog W = .ok (.int .u8 (c0.toNat : Int)) W := fun W => idx_at L 0 c0 g0 W
  have kx1 : ∀ W, (Instr.index 9 (.string (bs L)) (.int .i64 1)).run Tryz.prog W = .ok (.int .u8 (c1.toNat : Int)) W := fun W => idx_at L 1 c1 g1 W
  have kx6 : ∀ W, (Instr.index 9 (.string (bs L)) (.int .i64 6)).run Tryz.prog W = .ok (.int .u8 (z.toNat : Int)) W := fun W => idx_at L 6 z g6 W
  have hx2 : (bs L).extract 2 6 = bs [n0, n1, n2, n3] := by rw [hL]; rfl
  have hx7 : (bs L).extract 7 N7 = bs tl := by
    have := bs_drop L 7
    rw [hlen, ← hN7] at this
    rw [this, hL]; rfl
  have HN : Hid (∀ W, Calls Tryz.prog 39 #[.string (bs [n0, n1, n2, n3])] W fun e w' => e = .returned (.int .u64 (n : Int)) ∧ w' = W) := fun W => by rw [hne]; exact rnumber_any [n0, n1, n2, n3] (by show 4 ≤ 8; decide) W
  have HST := hide (fun W b (hW : Br W b r x) => (standQ_any hs (by omega : (c1.toNat : Int) = 1 ∨ (c1.toNat : Int) = 2) (by omega : m ≤ 4096) hW (by omega)).mono fun e w' h => (hv ▸ h : StandR W w' e b (vs, r2, x2)))
  have HNUL : Hid (∀ W b, z.toNat = 1 → Br W b tl false → Calls Tryz.prog 40 #[.pointer (some ⟨b, 0, none⟩), .int .i64 n, .int .i64 1] W fun e w' => ∃ g, e = .returned (.slice (some ⟨g, 0, none⟩) n n) ∧ w'.rowIs g 65 n (u64F ks) ∧ W.heap.size ≤ g ∧ Br w' b r x ∧ Gr W w' b) := fun W b hz1 hW => by
    unfold nulQ at hq
    rw [if_pos hz1] at hq
    injection hq with q1 q2
    have := brbits_any (d := 1) hn (by decide) hW (by omega) (Prod.ext rfl q2 : takeR tl false (bytesN n 1) = ((takeR tl false (bytesN n 1)).1, r, x))
    refine this.mono ?_
    rintro e w' ⟨g, h1, h2, h3, h4, h5⟩
    refine ⟨g, h1, ?_, h3, h4, h5⟩
    rw [← q1, q2]; exact h2
  have HNU0 : Hid (z.toNat = 0 → ks = List.replicate n 0 ∧ r = tl ∧ x = false) := fun hz0 => by
    unfold nulQ at hq
    rw [if_neg (by omega)] at hq
    injection hq with q1 q2
    injection q2 with q2 q3
    exact ⟨q1.symm, q2.symm, q3.symm⟩
  obtain ⟨X, f, hF⟩ : ∃ X f, fromV (c1.toNat : Int) (spreadL (ks.map (· == 1)) vs) = (X, f) := ⟨_, _, rfl⟩
  have hall : (spreadL (ks.map (· == 1)) vs).length = n := by rw [spread_len, List.length_map, hql]
  have HFR : Hid (∀ W a c, RowAt W a (spreadL (ks.map (· == 1)) vs) → Calls Tryz.prog 42 #[.int .i64 (c1.toNat : Int), .slice a (spreadL (ks.map (· == 1)) vs).length c] W fun e w' => ∃ p, e = .returned (.tuple #[vecV X p, .int .i64 f]) ∧ VecAt w' X p ∧ Fresh W.heap.size p ∧ Below W.heap.size W w') := fun W a c hW => by
    have := rfrom_any a c (c1.toNat : Int) _ W (by rw [hall]; omega) hW
    rw [hF] at this
    exact this
  have HF1 : Hid (f ≠ 0 → columnD L = none) := fun hf => none_of fun sch kind xs hc => by
    obtain ⟨q1, q2, q3, q4, q5⟩ := unhide HSOME _ _ _ hc
    have := (read_col hc).1
    rw [q2, q5, hF] at this
    injection this with _ e
    exact hf e
  have HF2 : Hid (f = 0 → small X ∧ ∀ t q, RW X (c0.toNat : Int) t q → (q = 0 → t = bs L → UnR L X 0) ∧ (¬ (q = 0 ∧ t = bs L) → columnD L = none)) := fun hf => by
    rw [hf] at hF
    obtain ⟨g1, g2, g3, g4, g5, g6, g7, g8⟩ := from_ok hF
    rw [hall] at g5 g6 g7
    have hns : ∀ n ∈ X.ns, In63 n := fun n hn => in63_ok (g8 (fun x hx => unhide HRNG x hx) n hn)
    refine ⟨⟨by omega, by omega, by omega⟩, fun t q hw => ⟨fun e1 e2 => ?_, fun hne => none_of fun sch kind xs hc => ?_⟩⟩
    · subst e1 e2
      have h4 : c0.toNat = 1 ∨ c0.toNat = 2 ∨ c0.toNat = 3 ∨ c0.toNat = 4 := by omega
      have := written_read hns h4 hw
      exact .inl ⟨rfl, ⟨_, this⟩, g4, by omega, by omega, by omega⟩
    · obtain ⟨q1, q2, q3, q4, q5⟩ := unhide HSOME _ _ _ hc
      have hr := (read_col hc).1
      rw [q2, q5, hF] at hr
      injection hr with hr _
      rw [← bs_list L] at hc
      rw [hr, ← q1, ← q5, ← q2] at hw
      exact hne (read_written hc hw)
  have HKS := hide hq2
  have HQL := hide hql
  have HM := hide hm
  have hc0 : c0.toNat < 256 := c0.toNat_lt
  have hc1 : c1.toNat < 256 := c1.toNat_lt
  have hLb : (N7 : Int) ≤ 140737488355328 := by omega
  obtain ⟨s, hse⟩ : ∃ s, s = bs L := ⟨_, rfl⟩
  have HSE := hide hse
  rw [← hse] at HF2 hsz kx0 kx1 kx6 hx2 hx7 ⊢
  generalize c0.toNat = a0 at *
  have hkI : (c1.toNat : Int) = 2 := by omega
  clear hk hc1
  generalize (c1.toNat : Int) = kd at *
  generalize z.toNat = az at *
  have hni : ¬ (4096 : Int) < (n : Int) := by omega
  have j0 : ¬ (a0 : Int) < 1 := by omega
  have j1 : ¬ (4 : Int) < (a0 : Int) := by omega
  have j5 : ¬ (1 : Int) < (az : Int) := by omega
  obtain ⟨bz, hbz⟩ : ∃ bz, ((az : Int) == 1) = bz := ⟨_, rfl⟩
  have HBZ := hide hbz
  clear hF hall hL hlen hN7 hq hm hv hne g0 g1 g6 hq2 hse hql
  subst hkI
  · go_enter Tryz.func11, Tryz.ntmps11
    go_upto_if 62 with (first
      | (go_at_call 39; refine (unhide HN _).mono ?_; rintro e wn ⟨rfl, rfl⟩)
      | (at_make; refine wpList_make_row _ rfl (.tmp 58) (.tmp 58) 66 rfl 65 i6 (.int .u64 0) Tryz.underlying66 hi6 z60 z61 rfl .i64 .i64 n rfl rfl (by rw [z62]; omega) (by omega) ?_))
    have HBR : Hid (Br (((w.alloc zero26).alloc (.cells #[.string (bs tl), .bool false] 82)).alloc (.cells (madeCells #[.int .u64 0] n) 65)) (w.heap.size + 1) tl false) := by
      have := (Br.new (w.alloc zero26) tl false).alloc (.cells (madeCells #[.int .u64 0] n) 65)
      rw [alloc_sz] at this
      exact this
    have HMK : Hid ((((w.alloc zero26).alloc (.cells #[.string (bs tl), .bool false] 82)).alloc (.cells (madeCells #[.int .u64 0] n) 65)).rowIs (w.heap.size + 1 + 1) 65 n (u64F (List.replicate n 0))) := by
      have := World.rowIs_made ((w.alloc zero26).alloc (.cells #[.string (bs tl), .bool false] 82)) (.int .u64 0) n 65
      rw [alloc_sz, alloc_sz] at this
      exact this.congr fun j hj => by simp [u64F, List.getD_eq_getElem?_getD, List.getElem?_replicate, hj]
    have HB3 : Hid (Below (w.alloc zero26).heap.size (w.alloc zero26) (((w.alloc zero26).alloc (.cells #[.string (bs tl), .bool false] 82)).alloc (.cells (madeCells #[.int .u64 0] n) 65))) := below_alloc (below_alloc (Below.refl _ _) _) _
    go_cut [6] (fun s6 wr => ∃ g, s6 = .slice (some ⟨g, 0, none⟩) n n ∧ wr.rowIs g 65 n (u64F ks) ∧ g ≠ w.heap.size + 1 ∧ Br wr (w.heap.size + 1) r x ∧ Below (w.alloc zero26).heap.size (w.alloc zero26) wr)
    case first =>
      clear hbz
      cases bz
      · have hz0 : az = 0 := by have h := unhide HBZ; simp at h; omega
        obtain ⟨e1, e2, e3⟩ := unhide HNU0 hz0
        have HE := hide e1
        have HE2 := hide e2
        have HE3 := hide e3
        clear e1 e2 e3 hz0
        go_wp2
        go_meet
        exact ⟨_, rfl, by rw [unhide HE]; exact unhide HMK, by omega, by rw [unhide HE2, unhide HE3]; exact unhide HBR, unhide HB3⟩
      · have hz1 : az = 1 := by have h := unhide HBZ; simp at h; omega
        have HCA := hide (unhide HNUL _ _ hz1 (unhide HBR))
        clear hz1
        go_wp2_with (go_at_call 40; refine (unhide HCA).mono ?_; rintro e w4 ⟨g, rfl, ho4, hgl4, hr4, hg4⟩)
        go_meet
        refine ⟨g, rfl, ho4, ?_, hr4, gr_below (unhide HB3) hg4 (by simp)⟩
        simp at hgl4
        omega
    case rest =>
      obtain ⟨g, rfl, hrow, hgb, hbr, hbel⟩ := hcut
      rename World => wr
      have hgsz : g < wr.heap.size := World.rowIs.lt hrow
      have hwr : w.heap.size + 1 ≤ wr.heap.size := by have := hbel.size; rw [alloc_sz] at this; exact this
      have HROW := hide hrow
      have HBEL := hide hbel
      have HSTD := hide (unhide HST wr.drew _ (World.rowIs.drew hbr))
      rw [← wr_i64 (a := (a0 : Int)) (by omega) (by omega), ← wr_i64 (a := (2 : Int)) (by omega) (by omega)] at HSTD
      have HBELD : Hid (Below (w.alloc zero26).heap.size (w.alloc zero26) wr.drew) := hbel.drew
      clear hrow hbel hbr
      go_wp2_with fail
      go_loop [7, 68] (fun s7 i => ∃ k : Nat, k ≤ n ∧ i = .int .i64 (k : Int) ∧ s7 = .int .i64 (cntF (ks.map (· == 1)) k : Nat)) (fun _ i => n - (intOf i).toNat)
      case atStart => exact ⟨0, Nat.zero_le _, rfl, rfl⟩
      case round =>
        obtain ⟨k, hkn, rfl, rfl⟩ := hrel
        have hcl := cntF_le (ks.map (· == 1)) k
        by_cases hlt : k < n
        · have h9 : (k : Int) < (n : Int) := by omega
          obtain ⟨y, hy⟩ : ∃ y, ks[k]? = some y := ⟨_, List.getElem?_eq_getElem (by rw [unhide HQL]; exact hlt)⟩
          have cy : wr.cell? ⟨g, k, none⟩ = some (.int .u64 (y : Int)) := by
            have := World.rowIs.cell (unhide HROW) hlt
            simpa [u64F, List.getD_eq_getElem?_getD, hy] using this
          have HNX := hide (cntF_next (nl := ks.map (· == 1)) (k := k) (x := (y == 1)) (by simp [hy]))
          rcases ks_sub (unhide HKS) hy with rfl | rfl
          · clear hy
            generalize cntF (ks.map (· == 1)) k = c at *
            go_wp2
            refine ⟨⟨k + 1, by omega, by go_num, ?_⟩, by simp [intOf]; omega⟩
            rw [unhide HNX]
            simp
          · clear hy
            generalize cntF (ks.map (· == 1)) k = c at *
            go_wp2
            refine ⟨⟨k + 1, by omega, by go_num, ?_⟩, by simp [intOf]; omega⟩
            rw [unhide HNX]
            simp
        · have h9 : ¬ (k : Int) < (n : Int) := by omega
          have hcm : cntF (ks.map (· == 1)) k = m := by
            unfold cntF
            rw [unhide HM, List.take_of_length_le (by rw [List.length_map, unhide HQL]; omega)]
          rw [hcm]
          clear hcm hcl
          go_upto_region 16 with fail
          go_cut [10] (fun s10 wx => StandR wr.drew wx (.returned s10) (w.heap.size + 1) (vs, r2, x2))
          case first =>
            go_region_with (go_at_call 41; refine (unhide HSTD).mono ?_; rintro e w5 ⟨v5, rfl, hst⟩)
            all_goals
              go_wp2
              go_meet
              exact ⟨_, rfl, hst⟩
          case rest =>
            obtain ⟨v5, ev5, ho5, hr5, hg5⟩ := hcut
            injection ev5 with ev5
            subst ev5
            rename World => w5
            obtain ⟨a5, c5, rfl, _, _, hrw5⟩ := ownV_slice ho5
            obtain ⟨d0, d1, f0, f1⟩ := hr5.facts
            have hB5 := gr_below (unhide HBELD) hg5 (by rw [alloc_sz]; omega)
            obtain ⟨⟨b0, b1, b2, b3⟩, q0, q1, q2, q3⟩ := zero26_facts hB5
            have HB5 := hide hB5
            have hB5w : Hid (Below w.heap.size w w5) := below_one hB5
            cases x2 with
            | true =>
              have HD : Hid (columnD L = none) := none_of fun sch kind xs hc => by have := (unhide HSOME _ _ _ hc).2.2.1; cases this
              clear ho5 hr5 hg5 hrw5 hB5
              go_wp2
              refine bodyPost_ret (v := .tuple #[zeroVec, .int .i64 2]) (by simp [results, Tryz.results11, go_sem, zeroVec, *]) rfl (un_dmg (unhide HD) ?_)
              exact put4 (unhide hB5w) _ _ _ _
            | false =>
              by_cases hvm : vs.length = m
              · have hvi : ((vs.length : Int) != (m : Int)) = false := by simp; omega
                have hcap := ownV_cap ho5
                have HR5 := hide hrw5
                have HROW5 : Hid (w5.rowIs g 65 n (u64F ks)) := row_grx (World.rowIs.drew (unhide HROW)) hg5 hgb
                have hg5z : g < w5.heap.size := World.rowIs.lt (unhide HROW5)
                have hvm4 : vs.length ≤ 4096 := by omega
                have HVM := hide hvm
                have hz5 : w.heap.size + 1 ≤ w5.heap.size := by have := hB5.size; rw [alloc_sz] at this; exact this
                clear ho5 hr5 hg5 hrw5 hB5 hvm
                obtain ⟨nl, hnl⟩ : ∃ nl, nl = ks.map (· == 1) := ⟨_, rfl⟩
                rw [← hnl] at HSOME HRNG HM HFR
                have HNL := hide hnl
                clear hnl
                obtain ⟨NV, hNV⟩ : ∃ NV, Hid (NV = Val.null) := ⟨_, rfl⟩
                have HNO : Hid (∀ W, Calls Tryz.prog 17 #[] W fun e w' => e = .returned NV.v ∧ Below W.heap.size W w') := fun W => by rw [unhide hNV]; exact none_any W
                go_wp2_with fail
                go_loopw [10, 11, 100] (fun s10 s11 i wx => ∃ (k : Nat) (a' : Option Addr), k ≤ n ∧ i = .int .i64 (k : Int) ∧ s10 = .slice a' (vs.drop (cntF nl k)).length (c5 - cntF nl k) ∧ RowAt w5 a' (vs.drop (cntF nl k)) ∧ OwnV wx w5.heap.size s11 (spreadL (nl.take k) vs) ∧ Below w5.heap.size w5 wx) (fun _ _ i _ => n - (intOf i).toNat)
                case atStart => exact ⟨0, a5, Nat.zero_le _, rfl, by simp [cntF], by simpa [cntF] using unhide HR5, ⟨rfl, .inl ⟨rfl, rfl⟩⟩, Below.refl _ _⟩
                case round =>
                  obtain ⟨k, a', hkn, rfl, rfl, hA, ho, hb⟩ := hrel
                  by_cases hlt : k < n
                  · have h9 : (k : Int) < (n : Int) := by omega
                    obtain ⟨y, hy⟩ : ∃ y, ks[k]? = some y := ⟨_, List.getElem?_eq_getElem (by rw [unhide HQL]; exact hlt)⟩
                    have cy : wr.cell? ⟨g, k, none⟩ = some (.int .u64 (y : Int)) := by
                      have := World.rowIs.cell (rowIs_later (unhide HROW5) hb) hlt
                      simpa [u64F, List.getD_eq_getElem?_getD, hy] using this
                    have hnk : nl[k]? = some (y == 1) := by rw [unhide HNL]; simp [hy]
                    have HNX := hide (cntF_next hnk)
                    have HSN := hide (spread_next (vs := vs) hnk)
                    have HVL : Hid ((spreadL (nl.take k) vs).length ≤ 4096) := by
                      show _ ≤ _
                      rw [spread_len, List.length_take]; omega
                    have hyw := ks_sub (unhide HKS) hy
                    have HB := hide hb
                    have HO := hide ho
                    have HA := hide hA
                    have hbz := hb.size
                    generalize hj : cntF nl k = j at *
                    clear hb ho hA hy
                    rcases hyw with rfl | rfl
                    · have hjm : j < vs.length := by
                        have := cntF_lt (nl := nl) (k := k) (by simpa using hnk)
                        rw [hj] at this
                        rw [unhide HVM, unhide HM]; exact this
                      obtain ⟨x, ys, hd⟩ : ∃ x ys, vs.drop j = x :: ys := ⟨_, _, List.drop_eq_getElem_cons hjm⟩
                      have hys : ys.length + 1 = vs.length - j := by have := congrArg List.length hd; rw [List.length_drop] at this; simpa using this.symm
                      obtain ⟨vb, vo, rfl, e0, e1, e2⟩ := ((unhide HA).later (unhide HB)).lo (k := 0) (x := x) (by rw [hd]; rfl)
                      rw [Nat.zero_mul, Nat.add_zero] at e0 e1 e2
                      have hlen : (vs.drop j).length = ys.length + 1 := by rw [hd]; rfl
                      rw [hlen]
                      have HSN2 : Hid (spreadL (nl.take (k + 1)) vs = spreadL (nl.take k) vs ++ [x]) := by
                        have := unhide HSN
                        rw [hd] at this
                        exact this
                      have HJN : Hid (cntF nl (k + 1) = j + 1) := unhide HNX
                      obtain ⟨CC, hCC⟩ : ∃ CC, CC = c5 - j := ⟨_, rfl⟩
                      rw [← hCC]
                      have hNC : ys.length + 1 ≤ CC := by omega
                      have hNC2 : (ys.length : Int) + 1 ≤ (CC : Int) := by omega
                      have HRN : Hid (RowAt w5 (some ⟨vb, vo + 3, none⟩) ys) := by
                        have := (unhide HA).drop (j := 1) (by rw [hlen]; omega)
                        rw [hd] at this
                        show RowAt _ _ _
                        simpa using this
                      have HCC := hide hCC
                      have HDN : Hid (vs.drop (j + 1) = ys) := by show _ = _; rw [← List.drop_drop, hd]; rfl
                      generalize hus : spreadL (nl.take k) vs = us at *
                      clear hCC hd hlen hj hus hnk hys HSN HNX
                      go_wp2_with (
                        (at_builtin; refine wpList_append_own_at _ rfl (.tmp 110) (.tmp 114) 44 rfl w5.heap.size 37 i4 (.agg #[.int .i64 0, .int .i64 0, .string ⟨#[]⟩]) 3 32 Tryz.underlying44 hi4 z40 z41 z42 rfl (by decide) _ _ _ rfl (World.ownsRow.alloc (unhide HO) _) ⟨wr.heap.size, 0, none⟩ 1 1 (c3 x) rfl rfl (cells3_new wr x) (c3_one _) (by have := unhide HVL; unfold maxLen; omega) (by have := unhide HVL; omega) (by simp; omega) ?_; intro v1 w8 hown1 hgrow1 _ hat1; have ho8 := ownV_app hown1))
                      refine ⟨⟨k + 1, (if CC = 1 then some ⟨vb, vo, none⟩ else some ⟨vb, vo + 3, none⟩), by omega, by go_num, ?_, ?_, by rw [unhide HSN2]; exact ho8, ?_⟩, by simp [intOf]; omega⟩
                      · rw [unhide HJN, unhide HDN, show c5 - (j + 1) = CC - 1 by have := unhide HCC; omega]
                      · rw [unhide HJN, unhide HDN]
                        by_cases hc1 : CC = 1
                        · exact .inl (List.eq_nil_of_length_eq_zero (by omega))
                        · rw [if_neg hc1]; exact unhide HRN
                      · exact (below_alloc (unhide HB) _).trans (grown_below (B := w5.heap.size) hgrow1 (by simp; omega) (fun g hg => (World.ownsRow.lt (unhide HO) g hg).1))
                    · have HSN2 : Hid (spreadL (nl.take (k + 1)) vs = spreadL (nl.take k) vs ++ [NV]) := by
                        have := unhide HSN
                        rw [unhide hNV]
                        exact this
                      have HJN : Hid (cntF nl (k + 1) = j) := unhide HNX
                      generalize hus : spreadL (nl.take k) vs = us at *
                      obtain ⟨DL, hDL⟩ : ∃ DL, DL = (vs.drop j).length := ⟨_, rfl⟩
                      obtain ⟨CC, hCC⟩ : ∃ CC, CC = c5 - j := ⟨_, rfl⟩
                      rw [← hDL, ← hCC]
                      have HDL := hide hDL
                      have HCC := hide hCC
                      clear hj hus hnk HSN HNX hDL hCC
                      go_wp2_with (first
                        | (go_at_call 17; refine (unhide HNO _).mono ?_; rintro e w7 ⟨rfl, hb7⟩; rw [Val.open_]; have ho7 := (unhide HO).later hb7; have hz7 := hb7.size)
                        | (at_builtin; refine wpList_append_own_at _ rfl (.tmp 106) (.tmp 108) 44 rfl w5.heap.size 37 i4 (.agg #[.int .i64 0, .int .i64 0, .string ⟨#[]⟩]) 3 32 Tryz.underlying44 hi4 z40 z41 z42 rfl (by decide) _ _ _ rfl (World.ownsRow.alloc ho7 _) ⟨w7.heap.size, 0, none⟩ 1 1 (c3 NV) rfl rfl (cells3_new w7 NV) (c3_one _) (by have := unhide HVL; unfold maxLen; omega) (by have := unhide HVL; omega) (by simp; omega) ?_; intro v1 w8 hown1 hgrow1 _ hat1; have ho8 := ownV_app hown1))
                      refine ⟨⟨k + 1, a', by omega, by go_num, ?_, ?_, by rw [unhide HSN2]; exact ho8, ?_⟩, by simp [intOf]; omega⟩
                      · rw [unhide HJN, unhide HDL, unhide HCC]
                      · rw [unhide HJN]; exact unhide HA
                      · exact (below_alloc (below_step (unhide HB) hb7) _).trans (grown_below (B := w5.heap.size) hgrow1 (by simp; omega) (fun g hg => (World.ownsRow.lt ho7 g hg).1))
                  · have h9 : ¬ (k : Int) < (n : Int) := by omega
                    have hnlk : nl.take k = nl := List.take_of_length_le (by rw [unhide HNL, List.length_map, unhide HQL]; omega)
                    rw [hnlk] at ho
                    obtain ⟨a9, c9, rfl, _, _, hrw9⟩ := ownV_slice ho
                    have HCF := hide (unhide HFR wr a9 c9 hrw9)
                    have HB9 := hide hb
                    obtain ⟨DL, hDL⟩ : ∃ DL, DL = (vs.drop (cntF nl k)).length := ⟨_, rfl⟩
                    obtain ⟨CC, hCC⟩ : ∃ CC, CC = c5 - cntF nl k := ⟨_, rfl⟩
                    rw [← hDL, ← hCC]
                    clear ho hb hA hrw9 hnlk hDL hCC
                    go_upto_region 29 with (go_at_call 42; refine (unhide HCF).mono ?_; rintro e w9 ⟨p, rfl, hv9, hf9, hb9⟩; rw [vecV_open])
                    have hB9 := below_step (unhide HB9) hb9
                    have hB9a := below_alloc (below_step (unhide HB5) hB9) (.cells #[.int .i64 X.k, .slice p.a1 X.nl.length p.c1, .slice p.a2 X.ns.length p.c2, .slice p.a3 X.ss.length p.c3] 26)
                    have hVA := hv9.later (below_alloc (Below.refl _ w9) (.cells #[.int .i64 X.k, .slice p.a1 X.nl.length p.c1, .slice p.a2 X.ns.length p.c2, .slice p.a3 X.ss.length p.c3] 26))
                    have hFR : Fresh (w.heap.size + 1) p := hf9.less (by have := (unhide HB9).size; omega)
                    have hz9 : w.heap.size + 1 ≤ w9.heap.size := by have := (below_step (unhide HB5) hB9).size; rw [alloc_sz] at this; exact this
                    have hBX : Box4 (w9.alloc (.cells #[.int .i64 X.k, .slice p.a1 X.nl.length p.c1, .slice p.a2 X.ns.length p.c2, .slice p.a3 X.ss.length p.c3] 26)) w9.heap.size X p := ⟨by simp [go_sem], by simp [go_sem], by simp [go_sem], by simp [go_sem]⟩
                    obtain ⟨WB, hWB⟩ : ∃ WB, WB = w9.alloc (.cells #[.int .i64 X.k, .slice p.a1 X.nl.length p.c1, .slice p.a2 X.ns.length p.c2, .slice p.a3 X.ss.length p.c3] 26) := ⟨_, rfl⟩
                    rw [← hWB] at hB9a hVA hBX ⊢
                    obtain ⟨⟨b0, b1, b2, b3⟩, q0, q1, q2, q3⟩ := zero26_facts hB9a
                    have hbx := hBX
                    obtain ⟨y0, y1, y2, y3⟩ := hbx
                    have HB9a := hide hB9a
                    have HBX := hide hBX
                    have HVA := hide hVA
                    have HFR2 := hide hFR
                    clear hB9 hB9a hVA hBX hWB hv9 hf9 hb9 hFR
                    by_cases hf0 : f = 0
                    · subst hf0
                      obtain ⟨hsm, hfin⟩ := unhide HF2 rfl
                      have HFIN := hide hfin
                      have HWR : Hid (Calls Tryz.prog 6 #[.agg #[.int .i64 X.k, .slice p.a1 X.nl.length p.c1, .slice p.a2 X.ns.length p.c2, .slice p.a3 X.ss.length p.c3], .int .i64 (IntKind.i64.wrap (a0 : Int))] WB.drew fun e w' => ∃ s f, e = .returned (.tuple #[.string s, .int .i64 f]) ∧ Hid (RW X (a0 : Int) s f) ∧ Below WB.drew.heap.size WB.drew w') := by
                        rw [wr_i64 (a := (a0 : Int)) (by omega) (by omega)]
                        exact rwrite_any X p (a0 : Int) WB.drew hsm ((unhide HVA).later ((Below.refl _ WB).drew))
                      clear hsm hfin
                      go_upto_region 31 with fail
                      go_cut [16, 17] (fun s16 s17 wx => ∃ t q, s16 = .string t ∧ s17 = .int .i64 q ∧ Hid (RW X (a0 : Int) t q) ∧ Below WB.heap.size WB wx)
                      case first =>
                        go_region_with (go_at_call 6; refine (unhide HWR).mono ?_; rintro e w10 ⟨t, q, rfl, hRW, hb10⟩)
                        all_goals
                          go_wp2
                          go_meet
                          exact ⟨t, q, rfl, rfl, hRW, below_step ((Below.refl _ WB).drew) hb10⟩
                      case rest =>
                        obtain ⟨t, q, rfl, rfl, HRW, hb10⟩ := hcut
                        rename World => w10
                        have hB10 := below_step (unhide HB9a) hb10
                        obtain ⟨⟨b0, b1, b2, b3⟩, q0, q1, q2, q3⟩ := zero26_facts hB10
                        obtain ⟨y0, y1, y2, y3⟩ := (unhide HBX).later hb10
                        have HB10 := hide (below_one hB10)
                        have HVA2 := hide ((unhide HVA).later hb10)
                        have HFF := hide (unhide HFIN _ _ (unhide HRW))
                        clear hB10 hb10
                        by_cases hqt : q = 0 ∧ t = s
                        · obtain ⟨hq0, ht0⟩ := hqt
                          have HU := hide ((unhide HFF).1 hq0 ht0)
                          subst hq0 ht0
                          clear HFF HF2 HFIN
                          go_wp2
                          refine bodyPost_ret (v := .tuple #[.agg #[.int .i64 X.k, .slice p.a1 X.nl.length p.c1, .slice p.a2 X.ns.length p.c2, .slice p.a3 X.ss.length p.c3], .int .i64 0]) (by simp [results, Tryz.results11, go_sem, *]) rfl ?_
                          exact ⟨X, p, 0, rfl, (unhide HVA2).put4 (unhide HFR2) _ _ _ _, (unhide HFR2).less (by omega), HU, put4 (unhide HB10) _ _ _ _⟩
                        · have HD := hide ((unhide HFF).2 hqt)
                          have hqt2 : (q != 0) = true ∨ (q = 0 ∧ (t.toList == s.toList) = false) := by
                            by_cases hq0 : q = 0
                            · exact .inr ⟨hq0, str_ne fun h => hqt ⟨hq0, h⟩⟩
                            · exact .inl (by simpa using hq0)
                          clear hqt HFF HF2 HFIN
                          rcases hqt2 with hq1 | ⟨rfl, ht1⟩
                          · go_wp2
                            refine bodyPost_ret (v := .tuple #[zeroVec, .int .i64 2]) (by simp [results, Tryz.results11, go_sem, zeroVec, *]) rfl (un_dmg (unhide HD) ?_)
                            exact put4 (unhide HB10) _ _ _ _
                          · go_wp2
                            refine bodyPost_ret (v := .tuple #[zeroVec, .int .i64 2]) (by simp [results, Tryz.results11, go_sem, zeroVec, *]) rfl (un_dmg (unhide HD) ?_)
                            exact put4 (unhide HB10) _ _ _ _
                    · have HD := hide (unhide HF1 hf0)
                      have hfi : (f != 0) = true := by simpa using hf0
                      clear hf0
                      go_wp2
                      refine bodyPost_ret (v := .tuple #[zeroVec, .int .i64 2]) (by simp [results, Tryz.results11, go_sem, zeroVec, *]) rfl (un_dmg (unhide HD) ?_)
                      exact put4 (below_one (unhide HB9a)) _ _ _ _
              · have HD : Hid (columnD L = none) := none_of fun sch kind xs hc => hvm (unhide HSOME _ _ _ hc).2.2.2.1
                have hvi : ((vs.length : Int) != (m : Int)) = true := by simp; omega
                clear ho5 hr5 hg5 hrw5 hB5
                go_wp2
                refine bodyPost_ret (v := .tuple #[zeroVec, .int .i64 2]) (by simp [results, Tryz.results11, go_sem, zeroVec, *]) rfl (un_dmg (unhide HD) ?_)
                exact put4 (unhide hB5w) _ _ _ _
end Go.Proofs.YtbcodfbcmkdmgabGreat
set_option linter.unusedSimpArgs false
set_option linter.unusedVariables false
namespace Go.Proofs.YtbcodfbcmkdmgabGreat
open Go.RowKit Go.Sort

theorem unpack_any {l : List UInt8} {w : World} (hl : l.length ≤ 140737488355328) : Calls Tryz.prog 11 #[.string (bs l)] w fun e w' => UnQ w w' l e := by
  by_cases h7 : l.length < 7
  · exact unpack_short h7
  · obtain ⟨c0, c1, n0, n1, n2, n3, z, tl, e⟩ : ∃ c0 c1 n0 n1 n2 n3 z tl, l = c0 :: c1 :: n0 :: n1 :: n2 :: n3 :: z :: tl := by
      match l, h7 with
      | c0 :: c1 :: n0 :: n1 :: n2 :: n3 :: z :: tl, _ => exact ⟨_, _, _, _, _, _, _, _, rfl⟩
      | [], h => exact absurd (by decide) h
      | [_], h => exact absurd (by show 1 < 7; decide) h
      | [_, _], h => exact absurd (by show 2 < 7; decide) h
      | [_, _, _], h => exact absurd (by show 3 < 7; decide) h
      | [_, _, _, _], h => exact absurd (by show 4 < 7; decide) h
      | [_, _, _, _, _], h => exact absurd (by show 5 < 7; decide) h
      | [_, _, _, _, _, _], h => exact absurd (by show 6 < 7; decide) h
    by_cases hh : headB9 c0 c1 z (beV [n0, n1, n2, n3])
    · obtain ⟨h1, h2, h3, h4⟩ := hh
      rcases h2 with h2 | h2
      · exact unpack_main1 e h1 h2 h3 h4 hl
      · exact unpack_main2 e h1 h2 h3 h4 hl
    · exact unpack_bad e hl hh
end Go.Proofs.YtbcodfbcmkdmgabGreat

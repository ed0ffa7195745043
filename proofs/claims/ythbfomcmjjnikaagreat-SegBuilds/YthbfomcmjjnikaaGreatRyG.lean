import Derived.Test.YthbfomcmjjnikaaGreatRyC
set_option linter.unusedSimpArgs false
set_option linter.unusedVariables false
namespace Go.Proofs.YthbfomcmjjnikaaGreat
open Go.RowKit Go.Sort

/-- Numbers of d bits by the document's reader. -/
def bitsL (t : List UInt8) (x : Bool) (d n : Nat) : List Nat := if x = true then List.replicate n 0 else numsOf t d n
theorem bitsL_len (t : List UInt8) (x : Bool) (d n : Nat) : (bitsL t x d n).length = n := by
  unfold bitsL
  split <;> simp [numsOf]
theorem takeR_full {l t r : List UInt8} {bad : Bool} {n : Nat} (h : takeR l bad n = (t, r, false)) : t.length = n := by
  unfold takeR at h
  split at h
  · injection h with h1 h2; injection h2 with h2 h3; cases h3
  · rename_i hn
    injection h with h1 h2
    rw [← h1, List.length_take]
    omega
theorem bitsL_lt {t : List UInt8} {x : Bool} {d n : Nat} (hd : d ≤ 64) : ∀ k ∈ bitsL t x d n, k < 18446744073709551616 := by
  intro k hk
  unfold bitsL at hk
  split at hk
  · rw [List.eq_of_mem_replicate hk]; decide
  · unfold numsOf at hk
    obtain ⟨i, _, rfl⟩ := List.mem_map.1 hk
    unfold numAt
    have h1 : leV t / 2 ^ (d * i) % 2 ^ d < 2 ^ d := Nat.mod_lt _ (Nat.two_pow_pos d)
    have h2 : 2 ^ d ≤ 2 ^ 64 := Nat.pow_le_pow_right (by decide) hd
    have h3 : (2 : Nat) ^ 64 = 18446744073709551616 := by decide
    omega
def u64F (ks : List Nat) (j : Nat) : Value := .int .u64 (ks.getD j 0 : Nat)
theorem brbits_any {b n d : Nat} {l t r : List UInt8} {bad x : Bool} {w : World} (hn : n ≤ 4096) (hd : d ≤ 64) (h : Br w b l bad) (hl : l.length ≤ 140737488355328) (ht : takeR l bad (bytesN n d) = (t, r, x)) :
    Calls Tryz.prog 66 #[.pointer (some ⟨b, 0, none⟩), .int .i64 n, .int .i64 d] w fun e w' => ∃ g, e = .returned (.slice (some ⟨g, 0, none⟩) n n) ∧ w'.rowIs g 73 n (u64F (bitsL t x d n)) ∧ w.heap.size ≤ g ∧ Br w' b r x ∧ Gr w w' b := by
  cases x with
  | true =>
    refine (brbits_bad hn hd h hl ht).mono ?_
    rintro e w' ⟨g, he, ho, h1, h2, h3⟩
    exact ⟨g, he, World.rowIs.congr ho fun j hj => by simp [u64F, bitsL, List.getD_eq_getElem?_getD, List.getElem?_replicate, hj], h1, h2, h3⟩
  | false =>
    refine (brbits_yes hn hd h hl ht (takeR_full ht)).mono ?_
    rintro e w' ⟨g, he, ho, h1, h2, h3⟩
    exact ⟨g, he, World.rowIs.congr ho fun j hj => by simp [u64F, bitsL, numsOf, List.getD_eq_getElem?_getD, hj], h1, h2, h3⟩
def offsQ (m : Nat) (l : List UInt8) (bad : Bool) : List Val × List UInt8 × Bool :=
  if 64 < beV (takeR (takeR l bad 8).2.1 (takeR l bad 8).2.2 1).1 then ([], (takeR (takeR l bad 8).2.1 (takeR l bad 8).2.2 1).2.1, true)
  else ((bitsL (takeR (takeR (takeR l bad 8).2.1 (takeR l bad 8).2.2 1).2.1 (takeR (takeR l bad 8).2.1 (takeR l bad 8).2.2 1).2.2 (bytesN m (beV (takeR (takeR l bad 8).2.1 (takeR l bad 8).2.2 1).1))).1
      (takeR (takeR (takeR l bad 8).2.1 (takeR l bad 8).2.2 1).2.1 (takeR (takeR l bad 8).2.1 (takeR l bad 8).2.2 1).2.2 (bytesN m (beV (takeR (takeR l bad 8).2.1 (takeR l bad 8).2.2 1).1))).2.2
      (beV (takeR (takeR l bad 8).2.1 (takeR l bad 8).2.2 1).1) m).map fun k => .num (sint (beV (takeR l bad 8).1 + k)),
    (takeR (takeR (takeR l bad 8).2.1 (takeR l bad 8).2.2 1).2.1 (takeR (takeR l bad 8).2.1 (takeR l bad 8).2.2 1).2.2 (bytesN m (beV (takeR (takeR l bad 8).2.1 (takeR l bad 8).2.2 1).1))).2)
theorem add_sint (p k : Nat) : wrap64 (IntKind.u64.wrap ((p : Int) + (k : Int))) = sint (p + k) := by
  rw [IntKind.wrap_u64]; unfold sint wrap64; omega
set_option maxHeartbeats 400000 in
set_option maxRecDepth 100000 in
theorem stand4_no {b m : Nat} {kind : Int} {l a l1 c l2 : List UInt8} {bad x1 x2 : Bool} {w : World} (h : Br w b l bad) (hl : l.length ≤ 140737488355328) (ha : takeR l bad 8 = (a, l1, x1)) (hc : takeR l1 x1 1 = (c, l2, x2)) (hw : 64 < beV c) :
    Calls Tryz.prog 67 #[.pointer (some ⟨b, 0, none⟩), .int .i64 4, .int .i64 kind, .int .i64 m] w fun e w' => StandR w w' e b ([], l2, true) := by
  have hal : a.length ≤ 8 := by have := (takeR_len l bad 8).1; rw [ha] at this; exact this
  have hl1 : l1.length ≤ l.length := by have := (takeR_len l bad 8).2; rw [ha] at this; exact this
  have hcl : c.length ≤ 1 := by have := (takeR_len l1 x1 1).1; rw [hc] at this; exact this
  have HA := hide (rtake_to h hl (by decide) ha)
  have HNA := hide (fun W => rnumber_any a hal W)
  have HC := hide (fun W (hW : Br W b l1 x1) => rtake_to hW (by omega) (by decide) hc)
  have HNC := hide (fun W => rnumber_any c (by omega) W)
  have hwi : (64 : Int) < (beV c : Int) := by omega
  generalize beV c = d at *
  generalize beV a = p at *
  clear h ha hc hal hcl
  go_enter Tryz.func67, Tryz.ntmps67
  go_wp2_with (first
    | (go_at_call 39; first | (refine (unhide HC _ hr1).mono ?_; rintro e w2 ⟨rfl, hr2, hg2⟩; obtain ⟨c0, c1, f0, f1⟩ := hr2.facts) | (refine (unhide HA).mono ?_; rintro e w1 ⟨rfl, hr1, hg1⟩))
    | (go_at_call_of 40 (Value.string (bs c)); refine (unhide HNC _).mono ?_; rintro e wn ⟨rfl, rfl⟩)
    | (go_at_call_of 40 (Value.string (bs a)); refine (unhide HNA _).mono ?_; rintro e wn ⟨rfl, rfl⟩))
  go_ret
  exact ⟨_, rfl, ⟨rfl, .inl ⟨rfl, rfl⟩⟩, hr2.bad true, (hg1.trans hg2).trans (grown_set _ b 1 _)⟩
theorem vals_next {ks : List Nat} {k y p : Nat} (h : ks[k]? = some y) : (ks.take (k + 1)).map (fun k => Val.num (sint (p + k))) = (ks.take k).map (fun k => Val.num (sint (p + k))) ++ [Val.num (sint (p + y))] := by
  obtain ⟨h1, rfl⟩ := List.getElem?_eq_some_iff.1 h
  rw [List.take_succ_eq_append_getElem h1, List.map_append]; rfl
set_option maxHeartbeats 400000 in
set_option maxRecDepth 100000 in
theorem stand4_yes {b m : Nat} {kind : Int} {l a l1 c l2 t r : List UInt8} {bad x1 x2 x3 : Bool} {w : World} (hm : m ≤ 4096) (h : Br w b l bad) (hl : l.length ≤ 140737488355328) (ha : takeR l bad 8 = (a, l1, x1)) (hc : takeR l1 x1 1 = (c, l2, x2)) (hw : ¬ 64 < beV c) (ht : takeR l2 x2 (bytesN m (beV c)) = (t, r, x3)) :
    Calls Tryz.prog 67 #[.pointer (some ⟨b, 0, none⟩), .int .i64 4, .int .i64 kind, .int .i64 m] w fun e w' => StandR w w' e b ((bitsL t x3 (beV c) m).map fun k => .num (sint (beV a + k)), r, x3) := by
  obtain ⟨i4, hi4, z40, z41, z42⟩ := info_parts Tryz.info59
  have hal : a.length ≤ 8 := by have := (takeR_len l bad 8).1; rw [ha] at this; exact this
  have hl1 : l1.length ≤ l.length := by have := (takeR_len l bad 8).2; rw [ha] at this; exact this
  have hcl : c.length ≤ 1 := by have := (takeR_len l1 x1 1).1; rw [hc] at this; exact this
  have hl2 : l2.length ≤ l1.length := by have := (takeR_len l1 x1 1).2; rw [hc] at this; exact this
  have HA := hide (rtake_to h hl (by decide) ha)
  have HNA := hide (fun W => rnumber_any a hal W)
  have HC := hide (fun W (hW : Br W b l1 x1) => rtake_to hW (by omega) (by decide) hc)
  have HNC := hide (fun W => rnumber_any c (by omega) W)
  have hwi : ¬ (64 : Int) < (beV c : Int) := by omega
  have HBI := hide (fun W (hW : Br W b l2 x2) => brbits_any hm (by omega : beV c ≤ 64) hW (by omega) ht)
  have HLT := hide (bitsL_lt (t := t) (x := x3) (n := m) (by omega : beV c ≤ 64))
  have HLE := hide (bitsL_len t x3 (beV c) m)
  have hpb : beV a < 18446744073709551616 := by
    have h1 := beV_lt a
    have h3 : 256 ^ a.length ≤ 256 ^ 8 := Nat.pow_le_pow_right (by decide) hal
    have h4 : (256 : Nat) ^ 8 = 18446744073709551616 := by decide
    omega
  have hbw := h.ne
  generalize bitsL t x3 (beV c) m = ks at *
  generalize beV c = d at *
  generalize beV a = p at *
  obtain ⟨R, hR⟩ : ∃ R, R = (ks.map fun k => Val.num (sint (p + k))) := ⟨_, rfl⟩
  rw [← hR]
  have HRR := hide hR
  clear h ha hc hal hcl hR ht
  go_enter Tryz.func67, Tryz.ntmps67
  go_wp2_with (first
    | (go_at_call 39; first | (refine (unhide HC _ hr1).mono ?_; rintro e w2 ⟨rfl, hr2, hg2⟩) | (refine (unhide HA).mono ?_; rintro e w1 ⟨rfl, hr1, hg1⟩))
    | (go_at_call_of 40 (Value.string (bs c)); refine (unhide HNC _).mono ?_; rintro e wn ⟨rfl, rfl⟩)
    | (go_at_call_of 40 (Value.string (bs a)); refine (unhide HNA _).mono ?_; rintro e wn ⟨rfl, rfl⟩)
    | (go_at_call 66; refine (unhide HBI _ hr2).mono ?_; rintro e w3 ⟨g, rfl, ho3, hgl3, hr3, hg3⟩))
  have HG3 := hide ((hg1.trans hg2).trans hg3)
  have hz := hg1.size
  have hz2 := hg2.size
  have hgw : w.heap.size ≤ g := by omega
  have hbg : b ≠ g := by omega
  have HO3 := hide ho3
  have HR3 := hide hr3
  clear hr1 hg1 hr2 hg2 hr3 hg3 ho3 hz hz2 hgl3
  go_loopw [9, 155] (fun v i wr => ∃ k : Nat, k ≤ m ∧ i = .int .i64 (k : Int) ∧ OwnV wr w.heap.size v ((ks.take k).map fun k => Val.num (sint (p + k))) ∧ wr.rowIs g 73 m (u64F ks) ∧ Br wr b r x3 ∧ Gr w wr b) (fun _ i _ => m - (intOf i).toNat)
  case atStart => exact ⟨0, Nat.zero_le _, rfl, ⟨rfl, .inl ⟨rfl, rfl⟩⟩, unhide HO3, unhide HR3, unhide HG3⟩
  case round =>
    obtain ⟨k, hkm, rfl, ho, hrow, hr, hg⟩ := hrel
    by_cases hlt : k < m
    · have h9 : (k : Int) < (m : Int) := by omega
      obtain ⟨y, hy⟩ : ∃ y, ks[k]? = some y := ⟨_, List.getElem?_eq_getElem (by rw [unhide HLE]; exact hlt)⟩
      have hyb := unhide HLT y (List.mem_of_getElem? hy)
      have cy : wr.cell? ⟨g, k, none⟩ = some (.int .u64 (y : Int)) := by
        have := World.rowIs.cell hrow hlt
        simpa [u64F, List.getD_eq_getElem?_getD, hy] using this
      have HN := hide (vals_next (p := p) hy)
      have HVL : Hid (((ks.take k).map fun k => Val.num (sint (p + k))).length ≤ 4096) := by
        show _ ≤ _
        rw [List.length_map, List.length_take, unhide HLE]; omega
      have HU := hide (fun W => rnum_any (sint (p + y)) W)
      have has := add_sint p y
      have HKP := hide (⟨ho, hrow, hr, hg⟩ : OwnV wr w.heap.size u9 ((ks.take k).map fun k => Val.num (sint (p + k))) ∧ wr.rowIs g 73 m (u64F ks) ∧ Br wr b r x3 ∧ Gr w wr b)
      have hsz := hg.size
      generalize sint (p + y) = z at *
      generalize hvs : ((ks.take k).map fun k => Val.num (sint (p + k))) = vs at *
      clear ho hrow hr hg hy hvs
      go_wp2_with (first
        | (go_at_call 37; refine (unhide HU _).mono ?_; rintro e w4 ⟨rfl, hb4⟩; rw [Val.open_]; have ho4 := (unhide HKP).1.later hb4; have hsz4 := hb4.size)
        | (at_builtin; refine wpList_append_own_at _ rfl (.tmp 159) (.tmp 165) 37 rfl w.heap.size 59 i4 (.agg #[.int .i64 0, .int .i64 0, .string ⟨#[]⟩]) 3 32 Tryz.underlying37 hi4 z40 z41 z42 rfl (by decide) _ _ _ rfl (World.ownsRow.alloc ho4 _) ⟨w4.heap.size, 0, none⟩ 1 1 (c3 (Val.num z)) rfl rfl (cells3_new w4 (Val.num z)) (c3_one _) (by have := unhide HVL; unfold maxLen; omega) (by have := unhide HVL; omega) (by simp; omega) ?_; intro v1 w5 hown1 hgrow1 _ hat1; have ho5 := ownV_app hown1))
      obtain ⟨_, hrow, hr, hg⟩ := unhide HKP
      refine ⟨⟨k + 1, by omega, by go_num, by rw [unhide HN]; exact ho5, ?_, ?_, ?_⟩, by simp [intOf]; omega⟩
      · exact rowIs_grown (World.rowIs.alloc (rowIs_later hrow hb4) _) hgrow1 (own_ne (rowIs_later hrow hb4) ho4 (by decide))
      · exact Br.app (World.rowIs.of_block hr (hb4.block b hr.ne)) ho4 hbw hgrow1
      · exact (hg.trans (Gr.of_below hb4 b)).app ho4 hgrow1
    · have h9 : ¬ (k : Int) < (m : Int) := by omega
      have ek : k = m := by omega
      subst ek
      have etk : ks.take k = ks := List.take_of_length_le (by rw [unhide HLE]; omega)
      rw [etk, ← unhide HRR] at ho
      have HE : Hid (StandR w wr (.returned u9) b (R, r, x3)) := ⟨u9, rfl, ho, hr, hg⟩
      clear ho hrow hr hg etk
      go_wp2
      go_ret
      exact unhide HE
theorem stand4_any (b m : Nat) (kind : Int) (l : List UInt8) (bad : Bool) (w : World) (hm : m ≤ 4096) (h : Br w b l bad) (hl : l.length ≤ 140737488355328) :
    Calls Tryz.prog 67 #[.pointer (some ⟨b, 0, none⟩), .int .i64 4, .int .i64 kind, .int .i64 m] w fun e w' => StandR w w' e b (offsQ m l bad) := by
  unfold offsQ
  split
  · rename_i hw
    exact stand4_no h hl rfl rfl hw
  · rename_i hw
    exact stand4_yes hm h hl rfl rfl hw rfl
end Go.Proofs.YthbfomcmjjnikaaGreat
set_option linter.unusedSimpArgs false
set_option linter.unusedVariables false
namespace Go.Proofs.YthbfomcmjjnikaaGreat
open Go.RowKit Go.Sort

/-- How many of a run are taken. -/
def cntR (m many len : Nat) : Nat := min many (m + 1 - len)
def runR (kind : Int) (m : Nat) (vs : List Val) (l : List UInt8) : List Val × List UInt8 × Bool :=
  (vs ++ List.replicate (cntR m (beV (takeR l false 4).1) vs.length) (plainR kind (takeR l false 4).2.1 (takeR l false 4).2.2).1, (plainR kind (takeR l false 4).2.1 (takeR l false 4).2.2).2)
def runsR (kind : Int) (m : Nat) (l : List UInt8) (bad : Bool) : Nat → List Val × List UInt8 × Bool
  | 0 => ([], l, bad)
  | k + 1 => if (runsR kind m l bad k).2.2 = true then runsR kind m l bad k else runR kind m (runsR kind m l bad k).1 (runsR kind m l bad k).2.1
theorem runsR_step {kind : Int} {m : Nat} {l l2 : List UInt8} {bad : Bool} {k : Nat} {vs : List Val} (h : runsR kind m l bad k = (vs, l2, false)) : runsR kind m l bad (k + 1) = runR kind m vs l2 := by
  rw [runsR, h]; rfl
theorem runsR_stuck {kind : Int} {n : Nat} {l l2 : List UInt8} {bad : Bool} {k : Nat} {vs : List Val} (h : runsR kind n l bad k = (vs, l2, true)) : ∀ m, k ≤ m → runsR kind n l bad m = (vs, l2, true) := by
  intro m hm
  obtain ⟨j, rfl⟩ : ∃ j, m = k + j := ⟨m - k, by omega⟩
  clear hm
  induction j with
  | zero => exact h
  | succ j ih => rw [← Nat.add_assoc, runsR, ih]; rfl
theorem runsR_len (kind : Int) (m : Nat) (l : List UInt8) (bad : Bool) : ∀ k, (runsR kind m l bad k).1.length ≤ m + 1 ∧ (runsR kind m l bad k).2.1.length ≤ l.length
  | 0 => ⟨by simp [runsR], Nat.le_refl _⟩
  | k + 1 => by
    have ih := runsR_len kind m l bad k
    rw [runsR]
    split
    · exact ih
    · refine ⟨?_, Nat.le_trans (plainR_len _ _ _) (Nat.le_trans (takeR_len _ _ _).2 ih.2)⟩
      simp only [runR, List.length_append, List.length_replicate, cntR]
      omega
theorem rep_snoc (vs : List Val) (i : Nat) (x : Val) : vs ++ List.replicate (i + 1) x = (vs ++ List.replicate i x) ++ [x] := by
  rw [List.replicate_succ', List.append_assoc]
set_option maxHeartbeats 600000 in
set_option maxRecDepth 100000 in
theorem stand2_any (b m : Nat) (kind : Int) (l : List UInt8) (bad : Bool) (w : World) (hk : kind = 1 ∨ kind = 2) (hm : m ≤ 4096) (h : Br w b l bad) (hl : l.length ≤ 140737488355328) :
    Calls Tryz.prog 67 #[.pointer (some ⟨b, 0, none⟩), .int .i64 2, .int .i64 kind, .int .i64 m] w fun e w' => StandR w w' e b (runsR kind m (takeR l bad 4).2.1 (takeR l bad 4).2.2 (beV (takeR l bad 4).1)) := by
  obtain ⟨i4, hi4, z40, z41, z42⟩ := info_parts Tryz.info59
  have hb0 := h.ne
  obtain ⟨a, l1, x1, ha⟩ : ∃ a l1 x1, takeR l bad 4 = (a, l1, x1) := ⟨_, _, _, rfl⟩
  rw [ha]
  have hal : a.length ≤ 4 := by have := (takeR_len l bad 4).1; rw [ha] at this; exact this
  have hl1 : l1.length ≤ l.length := by have := (takeR_len l bad 4).2; rw [ha] at this; exact this
  have HA := hide (rtake_to h hl (by decide) ha)
  have HNA := hide (fun W => rnumber_any a (by omega) W)
  have hnb : beV a < 4294967296 := by
    have h1 := beV_lt a
    have h3 : 256 ^ a.length ≤ 256 ^ 4 := Nat.pow_le_pow_right (by decide) hal
    have h4 : (256 : Nat) ^ 4 = 4294967296 := by decide
    omega
  dsimp only
  generalize beV a = n at *
  obtain ⟨R, hR⟩ : ∃ R, R = runsR kind m l1 x1 n := ⟨_, rfl⟩
  rw [← hR]
  have HRR := hide hR
  clear hR h ha hal
  go_enter Tryz.func67, Tryz.ntmps67
  go_wp2_with (first
    | (go_at_call 39; refine (unhide HA).mono ?_; rintro e w1 ⟨rfl, hr1, hg1⟩)
    | (go_at_call 40; refine (unhide HNA _).mono ?_; rintro e wn ⟨rfl, rfl⟩))
  go_loopw [9, 11] (fun v i wr => ∃ (k j : Nat) (vs : List Val) (r : List UInt8) (x : Bool), k + j = n ∧ i = .int .i64 (j : Int) ∧ Hid (runsR kind m l1 x1 k = (vs, r, x)) ∧ OwnV wr w.heap.size v vs ∧ Br wr b r x ∧ Gr w wr b) (fun _ i _ => (intOf i).toNat)
  case atStart => exact ⟨0, n, [], l1, x1, by omega, rfl, rfl, ⟨rfl, .inl ⟨rfl, rfl⟩⟩, hr1, hg1⟩
  case round =>
    obtain ⟨k, j, vs, r, x, hkn, rfl, HP, ho, hr, hg⟩ := hrel
    have hln := runsR_len kind m l1 x1 k
    rw [unhide HP] at hln
    obtain ⟨hvl, hrl⟩ := hln
    replace hvl : vs.length ≤ m + 1 := hvl
    replace hrl : r.length ≤ l1.length := hrl
    obtain ⟨c0, c1, f0, f1⟩ := hr.facts
    by_cases hj : 0 < j
    · have h9 : (0 : Int) < (j : Int) := by omega
      cases x with
      | true =>
        have HE : Hid (StandR w wr (.returned u9) b R) := ⟨u9, rfl, by rw [unhide HRR, runsR_stuck (unhide HP) n (by omega)]; exact ⟨ho, hr, hg⟩⟩
        clear ho hr hg hvl hrl hkn
        go_wp2
        go_ret
        exact unhide HE
      | false =>
        have HN := hide (runsR_step (unhide HP))
        obtain ⟨cc, r2, x2, hcc⟩ : ∃ cc r2 x2, takeR r false 4 = (cc, r2, x2) := ⟨_, _, _, rfl⟩
        have hccl : cc.length ≤ 4 := by have := (takeR_len r false 4).1; rw [hcc] at this; exact this
        have hr2l : r2.length ≤ r.length := by have := (takeR_len r false 4).2; rw [hcc] at this; exact this
        obtain ⟨y, r3, x3, hy⟩ : ∃ y r3 x3, plainR kind r2 x2 = (y, r3, x3) := ⟨_, _, _, rfl⟩
        have hmb : beV cc < 4294967296 := by
          have h1 := beV_lt cc
          have h3 : 256 ^ cc.length ≤ 256 ^ 4 := Nat.pow_le_pow_right (by decide) hccl
          have h4 : (256 : Nat) ^ 4 = 4294967296 := by decide
          omega
        have HNN : Hid (runsR kind m l1 x1 (k + 1) = (vs ++ List.replicate (cntR m (beV cc) vs.length) y, r3, x3)) := by
          show _ = _
          rw [unhide HN]; unfold runR; rw [hcc]; dsimp only; rw [hy]
        have HT := hide (rtake_to hr (by omega) (by decide) hcc)
        have HNC := hide (fun W => rnumber_any cc (by omega) W)
        have HPL : Hid (∀ W, Br W b r2 x2 → Calls Tryz.prog 90 #[.pointer (some ⟨b, 0, none⟩), .int .i64 kind] W fun e w' => e = .returned y.v ∧ Br w' b r3 x3 ∧ Gr W w' b) := fun W hW => by
          have := rplain_any hk hW (by omega : r2.length ≤ 140737488355328)
          rw [hy] at this; exact this
        have HG := hide hg
        have HO := hide ho
        have hsz := hg.size
        generalize beV cc = many at *
        clear hg ho hr hcc hy HN hccl
        go_wp2_with (first
          | (go_at_call 39; refine (unhide HT).mono ?_; rintro e w2 ⟨rfl, hr2, hg2⟩)
          | (go_at_call 40; refine (unhide HNC _).mono ?_; rintro e wn ⟨rfl, rfl⟩)
          | (go_at_call 90; refine (unhide HPL _ hr2).mono ?_; rintro e w3 ⟨rfl, hr3, hg3⟩; rw [Val.open_]))
        have hO3 := (unhide HO).gr (hg2.trans hg3) hb0
        have hG3 := (unhide HG).trans (hg2.trans hg3)
        have hsz3 := hG3.size
        obtain ⟨q, hq⟩ : ∃ q, q = w3.heap.size := ⟨_, rfl⟩
        obtain ⟨W, hW⟩ : ∃ W, Hid (W = w3.alloc (.cells #[.int .i64 y.k, .int .i64 y.n, .string y.s] 59)) := ⟨_, rfl⟩
        have HOW : Hid (OwnV W w.heap.size u9 vs) := by rw [unhide hW]; exact hO3.later (below_alloc (Below.refl _ _) _)
        have HBX : Hid (W.rowIs q 59 3 (box3 y)) := by rw [unhide hW, hq]; exact box3_alloc w3 y
        have HNE : Hid (some q ≠ u9.ownBlock) := fun e => by have := (World.ownsRow.lt hO3 q e.symm).2; omega
        have HRW : Hid (Br W b r3 x3) := by rw [unhide hW]; exact hr3.alloc _
        have HGW : Hid (Gr w W b) := by rw [unhide hW]; exact hG3.trans (Gr.alloc _ _ _)
        rw [← unhide hW, ← hq]
        obtain ⟨C, hC⟩ : ∃ C, C = cntR m many vs.length := ⟨_, rfl⟩
        rw [← hC] at HNN
        have hC1 : C ≤ many := by rw [hC]; exact Nat.min_le_left _ _
        have hC2 : C ≤ m + 1 - vs.length := by rw [hC]; exact Nat.min_le_right _ _
        have HC3 : Hid (C = many ∨ C = m + 1 - vs.length) := by
          show _ ∨ _
          rw [hC]; unfold cntR; omega
        clear hr2 hg2 hr3 hg3 hO3 hG3 hsz3 hW hC hq HO HG HT HPL hsz
        go_loopw [9, 14] (fun v i wv => ∃ s : Nat, s ≤ C ∧ i = .int .i64 (s : Int) ∧ OwnV wv w.heap.size v (vs ++ List.replicate s y) ∧ some q ≠ v.ownBlock ∧ wv.rowIs q 59 3 (box3 y) ∧ Br wv b r3 x3 ∧ Gr w wv b) (fun _ i _ => C - (intOf i).toNat)
        case atStart => exact ⟨0, Nat.zero_le _, rfl, by rw [List.replicate_zero, List.append_nil]; exact unhide HOW, unhide HNE, unhide HBX, unhide HRW, unhide HGW⟩
        case round =>
          obtain ⟨s, hsC, rfl, ho, hne, hbx, hr, hg⟩ := hrel
          obtain ⟨va, vc, rfl, _, _, _⟩ := ownV_slice ho
          obtain ⟨b0, b1, b2, _, _, _⟩ := box3_facts hbx
          obtain ⟨L, hL⟩ : ∃ L, L = (vs ++ List.replicate s y).length := ⟨_, rfl⟩
          have hL2 : L = vs.length + s := by rw [hL, List.length_append, List.length_replicate]
          have HO2 := hide ho
          have HNE2 := hide hne
          have HBX2 := hide hbx
          have HR2 := hide hr
          have HG2 := hide hg
          have HL := hide hL
          rw [← hL] at HO2 HNE2 ⊢
          have hsz := hg.size
          clear ho hne hbx hr hg hL
          by_cases hlt : s < C
          · have g1 : (s : Int) < (many : Int) := by omega
            have g2 : (L : Int) ≤ (m : Int) := by omega
            go_wp2_with (first
              | (at_builtin; refine wpList_append_own_at _ rfl (.tmp 79) (.tmp 81) 37 rfl w.heap.size 59 i4 (.agg #[.int .i64 0, .int .i64 0, .string ⟨#[]⟩]) 3 32 Tryz.underlying37 hi4 z40 z41 z42 rfl (by decide) _ _ _ rfl (World.ownsRow.alloc (unhide HO2) _) ⟨wr.heap.size, 0, none⟩ 1 1 (c3 y) rfl rfl (cells3_new wr y) (c3_one _) (by rw [← unhide HL]; unfold maxLen; omega) (by rw [← unhide HL]; omega) (by simp; omega) ?_; intro v1 w5 hown1 hgrow1 _ hat1; have ho5 := ownV_app hown1)
              | fail)
            have hqw := World.rowIs.lt (unhide HBX2)
            refine ⟨⟨s + 1, by omega, by go_num, by rw [rep_snoc]; exact ho5, ?_, rowIs_grown (World.rowIs.alloc (unhide HBX2) _) hgrow1 (unhide HNE2), Br.app (unhide HR2) (unhide HO2) hb0 hgrow1, (unhide HG2).app (unhide HO2) hgrow1⟩, by simp [intOf]; omega⟩
            rcases hat1 with e | e
            · rw [e]; exact unhide HNE2
            · rw [e]
              intro e2
              injection e2 with e2
              simp at e2
              omega
          · have es : s = C := by omega
            have hC3 := unhide HC3
            rw [es] at HO2
            by_cases g : s < many
            · have g1 : (s : Int) < (many : Int) := by omega
              have g2 : ¬ (L : Int) ≤ (m : Int) := by omega
              clear hC3 hL2 es
              go_wp2
              exact ⟨⟨k + 1, j - 1, vs ++ List.replicate C y, r3, x3, by omega, congrArg (Value.int .i64) (by omega), HNN, unhide HO2, unhide HR2, unhide HG2⟩, by simp [intOf]; omega⟩
            · have g1 : ¬ (s : Int) < (many : Int) := by omega
              clear hC3 hL2 es
              go_wp2
              exact ⟨⟨k + 1, j - 1, vs ++ List.replicate C y, r3, x3, by omega, congrArg (Value.int .i64) (by omega), HNN, unhide HO2, unhide HR2, unhide HG2⟩, by simp [intOf]; omega⟩
    · have h9 : ¬ (0 : Int) < (j : Int) := by omega
      have ej : k = n := by omega
      have HE : Hid (StandR w wr (.returned u9) b R) := ⟨u9, rfl, by rw [unhide HRR, ← ej, unhide HP]; exact ⟨ho, hr, hg⟩⟩
      clear ho hr hg hvl hrl ej hkn
      go_wp2
      go_ret
      exact unhide HE
end Go.Proofs.YthbfomcmjjnikaaGreat

import Derived.Test.YtjnggnhgambmkaaGreatRdH
set_option linter.unusedSimpArgs false
set_option linter.unusedVariables false
namespace Go.Proofs.YtjnggnhgambmkaaGreat
open Go.RowKit Go.Sort

def offsetsD (count : Nat) (l : List UInt8) : Option (List Val × List UInt8) :=
  (numD 8 l).bind fun p => (numD 1 p.2).bind fun q => if q.1 ≤ 64 then
    (bitsD count q.1 q.2).bind fun r => if (∀ k ∈ numsOf r.1 q.1 count, sint p.1 ≤ sint (p.1 + k)) ∧ q.1 = bl ((numsOf r.1 q.1 count).foldl max 0) ∧ (if count = 0 then p.1 = 0 else 0 ∈ numsOf r.1 q.1 count) then some ((numsOf r.1 q.1 count).map fun k => .num (sint (p.1 + k)), r.2) else none
  else none
theorem wrap64_lo (n : Int) : -9223372036854775808 ≤ wrap64 n := by
  unfold wrap64; omega
theorem wrap64_hi (n : Int) : wrap64 n ≤ 9223372036854775807 := by
  unfold wrap64; omega
theorem u64_wrap64 (M : Nat) (h : M < 18446744073709551616) : IntKind.u64.wrap (wrap64 (M : Int)) = (M : Int) := by
  rw [IntKind.wrap_u64]; unfold wrap64; omega
theorem nums_len (t : List UInt8) (d count : Nat) : (numsOf t d count).length = count := by simp [numsOf]
theorem nums_at {t : List UInt8} {d count k : Nat} (h : k < count) : (numsOf t d count)[k]? = some (numAt (leV t) d k) := by simp [numsOf, h]
theorem numAt_lt (T d i : Nat) (hd : d ≤ 64) : numAt T d i < 18446744073709551616 := by
  have h1 : numAt T d i < 2 ^ d := Nat.mod_lt _ (Nat.two_pow_pos _)
  have h2 : 2 ^ d ≤ 2 ^ 64 := Nat.pow_le_pow_right (by decide) hd
  have h3 : (2 : Nat) ^ 64 = 18446744073709551616 := by decide
  omega
def minK (ks : List Nat) (k : Nat) : Nat := (ks.take k).foldl min 18446744073709551615
def maxK (ks : List Nat) (k : Nat) : Nat := (ks.take k).foldl max 0
theorem minK_next {ks : List Nat} {k x : Nat} (h : ks[k]? = some x) : minK ks (k + 1) = min (minK ks k) x := by
  obtain ⟨h1, rfl⟩ := List.getElem?_eq_some_iff.1 h
  unfold minK
  rw [List.take_succ_eq_append_getElem h1, List.foldl_append]; rfl
theorem maxK_next {ks : List Nat} {k x : Nat} (h : ks[k]? = some x) : maxK ks (k + 1) = max (maxK ks k) x := by
  obtain ⟨h1, rfl⟩ := List.getElem?_eq_some_iff.1 h
  unfold maxK
  rw [List.take_succ_eq_append_getElem h1, List.foldl_append]; rfl
theorem minK_zero (ks : List Nat) : ∀ k, minK ks k = 0 ↔ 0 ∈ ks.take k := by
  intro k
  unfold minK
  suffices h : ∀ (l : List Nat) (m : Nat), l.foldl min m = 0 ↔ m = 0 ∨ 0 ∈ l by
    rw [h]; simp
  intro l
  induction l with
  | nil => intro m; simp
  | cons a l ih =>
    intro m
    have e : min m a = 0 ↔ m = 0 ∨ a = 0 := by omega
    rw [List.foldl_cons, ih, e, List.mem_cons, or_assoc, eq_comm (a := a)]
theorem minK_le (ks : List Nat) : ∀ k, minK ks k ≤ 18446744073709551615 := by
  intro k
  unfold minK
  suffices h : ∀ (l : List Nat) (m : Nat), l.foldl min m ≤ m from h _ _
  intro l
  induction l with
  | nil => intro m; simp
  | cons a l ih => intro m; rw [List.foldl_cons]; have := ih (min m a); omega
theorem maxK_lt {ks : List Nat} (h : ∀ x ∈ ks, x < 18446744073709551616) : ∀ k, maxK ks k < 18446744073709551616 := by
  intro k
  unfold maxK
  suffices g : ∀ (l : List Nat) (m : Nat), m < 18446744073709551616 → (∀ x ∈ l, x < 18446744073709551616) → l.foldl max m < 18446744073709551616 from g _ _ (by decide) (fun x hx => h x (List.mem_of_mem_take hx))
  intro l
  induction l with
  | nil => intro m hm _; simpa using hm
  | cons a l ih =>
    intro m hm ha
    rw [List.foldl_cons]
    have := ha a (by simp)
    exact ih (max m a) (by omega) (fun x hx => ha x (by simp [hx]))
theorem cast_min {a b c : Nat} (h : c = min a b) : min (a : Int) (b : Int) = (c : Int) := by subst h; omega
theorem cast_max {a b c : Nat} (h : c = max a b) : max (a : Int) (b : Int) = (c : Int) := by subst h; omega
theorem Gr.put3 {w wr : World} {b g : Nat} (h : Gr w wr b) (hg : w.heap.size ≤ g) (i j k : Nat) (u v x : Value) : Gr w (((wr.setCell ⟨g, i, none⟩ u).setCell ⟨g, j, none⟩ v).setCell ⟨g, k, none⟩ x) b :=
  ((h.fresh (grown_set _ _ _ _) hg).fresh (grown_set _ _ _ _) hg).fresh (grown_set _ _ _ _) hg
theorem Rd.put3 {w : World} {b g : Nat} {l : List UInt8} (h : Rd w b l) (hne : b ≠ g) (i j k : Nat) (u v x : Value) : Rd (((w.setCell ⟨g, i, none⟩ u).setCell ⟨g, j, none⟩ v).setCell ⟨g, k, none⟩ x) b l :=
  World.rowIs.setOther (World.rowIs.setOther (World.rowIs.setOther h hne _) hne _) hne _
theorem Bits.put3 {w : World} {A B C d P g : Nat} {t : List UInt8} (h : Bits w A B C d P t) (h1 : A ≠ g) (h2 : B ≠ g) (h3 : C ≠ g) (i j k : Nat) (u v x : Value) : Bits (((w.setCell ⟨g, i, none⟩ u).setCell ⟨g, j, none⟩ v).setCell ⟨g, k, none⟩ x) A B C d P t :=
  ((h.set _ h1 h2 h3).set _ h1 h2 h3).set _ h1 h2 h3
theorem Bits.lt {w : World} {A B C d P : Nat} {t : List UInt8} (h : Bits w A B C d P t) : A < w.heap.size ∧ B < w.heap.size ∧ C < w.heap.size := ⟨World.rowIs.lt h.a, World.rowIs.lt h.b, World.rowIs.lt h.c⟩
set_option maxHeartbeats 800000 in
set_option maxRecDepth 100000 in
theorem offs_loop {b count M d : Nat} {l l1 l2 t r : List UInt8} {w : World} (hc : count ≤ 4096) (h : Rd w b l) (hl : l.length ≤ 140737488355328) (hM : numD 8 l = some (M, l1)) (hd : numD 1 l1 = some (d, l2)) (hd64 : d ≤ 64) (hb : bitsD count d l2 = some (t, r))
    (O : Option (List Val × List UInt8)) (HO : Hid (O = if (∀ k ∈ numsOf t d count, sint M ≤ sint (M + k)) ∧ d = bl ((numsOf t d count).foldl max 0) ∧ (if count = 0 then M = 0 else 0 ∈ numsOf t d count) then some ((numsOf t d count).map fun k => .num (sint (M + k)), r) else none)) :
    Calls Tryz.prog 75 #[.pointer (some ⟨b, 0, none⟩), .int .i64 count] w fun e w' => PlainsR w w' e b O := by
  obtain ⟨i4, hi4, z40, z41, z42⟩ := info_parts Tryz.info38
  have HM := hide (numd_yes h hl hM (by decide))
  have hl1 := numD_le hM
  have hl2 := numD_le hd
  have HD := hide (fun W (hW : Rd W b l1) => numd_yes hW (by omega) hd (by decide))
  have HB := hide (fun W (hW : Rd W b l2) => bitsd_yes hc hd64 hW (by omega) hb)
  have htl := (bitsD_some hb).1
  have hbw := h.ne
  have HTL := hide htl
  have hM64 : M < 18446744073709551616 := by
    obtain ⟨h1, rfl, rfl⟩ := numD_some hM
    have := beV_lt (l.take 8)
    have h2 : (l.take 8).length = 8 := by rw [List.length_take]; omega
    rw [h2] at this
    have h3 : (256 : Nat) ^ 8 = 18446744073709551616 := by decide
    omega
  obtain ⟨L, hL, hL1, hL2⟩ : ∃ L, wrap64 (M : Int) = L ∧ -9223372036854775808 ≤ L ∧ L ≤ 9223372036854775807 := ⟨_, rfl, wrap64_lo _, wrap64_hi _⟩
  have eU : IntKind.u64.wrap L = (M : Int) := by rw [← hL]; exact u64_wrap64 M hM64
  have hdi : (d : Int) ≤ 64 := by omega
  have HLM : Hid (sint M = L) := hL
  clear h htl
  go_enter Tryz.func75, Tryz.ntmps75
  go_wp2_with (first
    | (at_make; refine wpList_make_rows _ rfl (.tmp 27) (.tmp 27) 22 rfl 38 i4 _ Tryz.underlying22 hi4 z40 3 z41 .i64 .i64 count rfl rfl (by rw [z42]; omega) (by omega) ?_)
    | (go_at_call 53; first | (refine (unhide HD _ hr1).mono ?_; rintro e w2 ⟨rfl, hr2, hg2⟩) | (refine (unhide HM).mono ?_; rintro e w1 ⟨rfl, hr1, hg1⟩))
    | (go_at_call 54; refine (ensure_yes _).mono ?_; rintro e w3 ⟨rfl, rfl⟩)
    | (go_at_call 71; refine (unhide HB _ hr2).mono ?_; rintro e w4 ⟨A, B, C, rfl, hb4, hA, hB, hC, hr4, hg4⟩))
  have hz2 := hg1.size
  have hz3 := hg2.size
  have hz4 := hg4.size
  have hG4 := (hg1.trans hg2).trans hg4
  obtain ⟨hA4, hB4, hC4⟩ := hb4.lt
  clear hg1 hg2 hg4 hr1 hr2
  generalize hks : numsOf t d count = ks at HO
  have HKL : Hid (ks.length = count) := by rw [← hks]; exact nums_len _ _ _
  have HKA : Hid (∀ k, k < count → ks[k]? = some (numAt (leV t) d k)) := fun k hk => by rw [← hks]; exact nums_at hk
  have HKB : Hid (∀ x ∈ ks, x < 18446744073709551616) := fun x hx => by
    rw [← hks] at hx
    obtain ⟨i, _, rfl⟩ := List.mem_map.1 hx
    exact numAt_lt _ _ _ hd64
  clear hks
  go_loopw [9, 10, 31] (fun s9 s10 i wr => ∃ k : Nat, k ≤ count ∧ i = .int .i64 (k : Int) ∧ s9 = .int .u64 (minK ks k : Nat) ∧ s10 = .int .u64 (maxK ks k : Nat) ∧ Hid (∀ x ∈ ks.take k, sint M ≤ sint (M + x)) ∧ Fill wr w4.heap.size count k (ks.map fun k => .num (sint (M + k))) ∧ Bits wr A B C d (d * k) t ∧ Rd wr b r ∧ Gr w wr b) (fun _ _ i _ => count - (intOf i).toNat)
  case atStart => exact ⟨0, Nat.zero_le _, rfl, rfl, rfl, fun x hx => by simp at hx, Fill.start _ _ _, hb4.alloc _, hr4.alloc _, hG4.trans (Gr.alloc _ _ _)⟩
  case round =>
    obtain ⟨k, hk, rfl, rfl, rfl, HS, hf, hbi, hrr, hgr⟩ := hrel
    have hmn := minK_le ks k
    have hmx := maxK_lt (unhide HKB) k
    by_cases hlt : k < count
    · have h9 : (k : Int) < (count : Int) := by omega
      have hat := unhide HKA k hlt
      have hx64 := unhide HKB _ (List.mem_of_getElem? hat)
      have hmn2 := minK_next hat
      have hmx2 := maxK_next hat
      have HC := hide (next_any hbi hd64 hlt hc (unhide HTL))
      have HT1 : Hid (ks.take (k + 1) = ks.take k ++ [numAt (leV t) d k]) := by
        obtain ⟨g1, g2⟩ := List.getElem?_eq_some_iff.1 hat
        show _ = _
        rw [List.take_succ_eq_append_getElem g1, g2]
      have HY : Hid ((ks.map fun k => Val.num (sint (M + k)))[k]? = some (.num (sint (M + numAt (leV t) d k)))) := by
        show _ = _
        rw [List.getElem?_map, hat]; rfl
      have HMEM := hide (List.mem_of_getElem? hat)
      have HKEEP : Hid (∀ w5, Gr wr w5 B → Fill w5 w4.heap.size count k (ks.map fun k => .num (sint (M + k))) ∧ Rd w5 b r ∧ Gr w w5 b) := fun w5 hg5 =>
        ⟨hf.grx hg5 (by omega), hrr.grx hg5 (by omega), hgr.fresh hg5 (by omega)⟩
      generalize numAt (leV t) d k = x at hat hx64 hmn2 hmx2 HC HT1 HY HMEM
      obtain ⟨V, hV, hV1, hV2⟩ : ∃ V, wrap64 (IntKind.u64.wrap ((M : Int) + (x : Int))) = V ∧ -9223372036854775808 ≤ V ∧ V ≤ 9223372036854775807 := ⟨_, rfl, wrap64_lo _, wrap64_hi _⟩
      have HV : Hid (sint (M + x) = V) := by
        show _ = _
        rw [← hV, IntKind.wrap_u64]; unfold sint wrap64; omega
      rw [unhide HV] at HY
      have HPUT : Hid (∀ W, Fill W w4.heap.size count k (ks.map fun k => .num (sint (M + k))) → Fill (((W.setCell ⟨w4.heap.size, k * 3, none⟩ (.int .i64 1)).setCell ⟨w4.heap.size, k * 3 + 1, none⟩ (.int .i64 V)).setCell ⟨w4.heap.size, k * 3 + 2, none⟩ (.string ⟨#[]⟩)) w4.heap.size count (k + 1) (ks.map fun k => .num (sint (M + k)))) := fun W h => h.put (y := Val.num V) (unhide HY)
      generalize minK ks k = mn at *
      generalize maxK ks k = mx at *
      have HN1 := hide hmn2
      have HN2 := hide hmx2
      clear hat hf hbi hrr hgr hmn2 hmx2
      by_cases hge : L ≤ V
      · go_wp2_with (first
          | (go_at_call 83; refine (unhide HC).mono ?_; rintro e w5 ⟨rfl, hb5, hg5⟩; obtain ⟨hf5, hr5, hG5⟩ := unhide HKEEP w5 hg5; obtain ⟨p0, p1, p2, q0, q1, q2⟩ := hf5.cells hlt; replace hf5 := hide hf5; replace hb5 := hide hb5; replace hr5 := hide hr5; replace hG5 := hide hG5)
          | (go_at_call 54; refine (ensure_yes _).mono ?_; rintro e w6 ⟨rfl, rfl⟩))
        refine ⟨⟨k + 1, by omega, by go_num, ?_, ?_, ?_, unhide HPUT _ (unhide hf5), (unhide hb5).put3 (by omega) (by omega) (by omega) _ _ _ _ _ _, (unhide hr5).put3 (by omega) _ _ _ _ _ _, (unhide hG5).put3 (by omega) _ _ _ _ _ _⟩, by simp [intOf]; omega⟩
        · exact congrArg (Value.int .u64) (cast_min (unhide HN1))
        · exact congrArg (Value.int .u64) (cast_max (unhide HN2))
        · show ∀ _, _
          intro y hy
          rw [unhide HT1] at hy
          rcases List.mem_append.1 hy with hy | hy
          · exact unhide HS y hy
          · rw [List.mem_singleton.1 hy, unhide HV, unhide HLM]; exact hge
      · have HNO : Hid (O = none) := by
          show _ = _
          rw [unhide HO, if_neg]
          rintro ⟨g1, _⟩
          have := g1 x (unhide HMEM)
          rw [unhide HV, unhide HLM] at this
          exact hge this
        go_wp2_with (first
          | (go_at_call 83; refine (unhide HC).mono ?_; rintro e w5 ⟨rfl, hb5, hg5⟩; obtain ⟨hf5, hr5, hG5⟩ := unhide HKEEP w5 hg5; replace hf5 := hide hf5; replace hb5 := hide hb5; replace hr5 := hide hr5; replace hG5 := hide hG5)
          | (go_at_call 54; refine (ensureF _ (decide_eq_false (by omega)) _).mono ?_; rintro e w6 ⟨rfl, rfl⟩))
        exact ⟨rfl, .inr ⟨unhide HNO, rfl, unhide hG5⟩⟩
    · have h9 : ¬ (k : Int) < (count : Int) := by omega
      have ek : k = count := by omega
      subst ek
      have etk : ks.take k = ks := List.take_of_length_le (by rw [unhide HKL]; omega)
      have emx : maxK ks k = ks.foldl max 0 := by unfold maxK; rw [etk]
      have emn : minK ks k = 0 ↔ 0 ∈ ks := by rw [minK_zero, etk]
      have HS2 : Hid (∀ x ∈ ks, sint M ≤ sint (M + x)) := by have := unhide HS; rw [etk] at this; exact this
      have HLEN := hide (len64_any (maxK ks k) wr hmx)
      have HOWN : Hid (OwnV wr w.heap.size (.slice (some ⟨w4.heap.size, 0, none⟩) k k) (ks.map fun k => .num (sint (M + k))) ∧ Rd wr b r ∧ Gr w wr b) := ⟨hf.own (by rw [List.length_map]; exact unhide HKL) (by omega) (by omega), hrr, hgr⟩
      have hLM : L = 0 ↔ M = 0 := by
        have h1 := unhide HLM
        unfold sint wrap64 at h1
        omega
      have HO2 : Hid (O = if d = bl (maxK ks k) ∧ (if k = 0 then M = 0 else minK ks k = 0) then some (ks.map fun k => .num (sint (M + k)), r) else none) := by
        show _ = _
        rw [unhide HO, emx]
        congr 1
        rw [emn]
        exact propext ⟨fun h => h.2, fun h => ⟨unhide HS2, h⟩⟩
      generalize minK ks k = mn at *
      generalize maxK ks k = mx at *
      generalize (ks.map fun k => Val.num (sint (M + k))) = ys at *
      clear etk emx emn HS HS2 hf hbi hrr hgr HO HKA HKB
      have hbl : bl mx ≤ 64 := bl_le (by have : (2:Nat)^64 = 18446744073709551616 := by decide
                                         omega)
      generalize bl mx = m2 at *
      by_cases g1 : d = m2
      · subst g1
        by_cases g2 : k = 0
        · subst g2
          by_cases g3 : M = 0
          · have g4 := hLM.2 g3
            have HE : Hid (O = some (ys, r)) := by show _ = _; rw [unhide HO2, if_pos ⟨rfl, by rw [if_pos rfl]; exact g3⟩]
            clear hLM hL eU
            subst g4
            go_wp2_with (first
              | (go_at_call 69; refine (unhide HLEN).mono ?_; rintro e w6 ⟨rfl, rfl⟩)
              | (go_at_call 54; refine (ensure_yes _).mono ?_; rintro e w7 ⟨rfl, rfl⟩))
            go_ret
            exact .inl ⟨_, _, _, unhide HE, rfl, unhide HOWN⟩
          · have g4 : (L == 0) = false := by simpa using fun h => g3 (hLM.1 h)
            have HE : Hid (O = none) := by show _ = _; rw [unhide HO2, if_neg (fun h => g3 (by simpa using h.2))]
            clear hLM
            go_wp2_with (first
              | (go_at_call 69; refine (unhide HLEN).mono ?_; rintro e w6 ⟨rfl, rfl⟩)
              | (go_at_call 54; first | (refine (ensure_yes _).mono ?_; rintro e w7 ⟨rfl, rfl⟩) | (refine (ensure_no _).mono ?_; rintro e w7 ⟨rfl, rfl⟩)))
            exact ⟨rfl, .inr ⟨unhide HE, rfl, (unhide HOWN).2.2⟩⟩
        · have g5 : ((k : Int) == 0) = false := by simpa using g2
          by_cases g3 : mn = 0
          · subst g3
            have HE : Hid (O = some (ys, r)) := by show _ = _; rw [unhide HO2, if_pos ⟨rfl, by rw [if_neg g2]⟩]
            go_wp2_with (first
              | (go_at_call 69; refine (unhide HLEN).mono ?_; rintro e w6 ⟨rfl, rfl⟩)
              | (go_at_call 54; refine (ensure_yes _).mono ?_; rintro e w7 ⟨rfl, rfl⟩))
            go_ret
            exact .inl ⟨_, _, _, unhide HE, rfl, unhide HOWN⟩
          · have g4 : ((mn : Int) == 0) = false := by simpa using g3
            have HE : Hid (O = none) := by show _ = _; rw [unhide HO2, if_neg (fun h => g3 (by simpa [g2] using h.2))]
            go_wp2_with (first
              | (go_at_call 69; refine (unhide HLEN).mono ?_; rintro e w6 ⟨rfl, rfl⟩)
              | (go_at_call 54; first | (refine (ensure_yes _).mono ?_; rintro e w7 ⟨rfl, rfl⟩) | (refine (ensure_no _).mono ?_; rintro e w7 ⟨rfl, rfl⟩)))
            exact ⟨rfl, .inr ⟨unhide HE, rfl, (unhide HOWN).2.2⟩⟩
      · have g4 : ((d : Int) == (m2 : Int)) = false := by simp; omega
        have HE : Hid (O = none) := by show _ = _; rw [unhide HO2, if_neg (fun h => g1 h.1)]
        go_wp2_with (first
          | (go_at_call 69; refine (unhide HLEN).mono ?_; rintro e w6 ⟨rfl, rfl⟩)
          | (go_at_call 54; refine (ensure_no _).mono ?_; rintro e w7 ⟨rfl, rfl⟩))
        exact ⟨rfl, .inr ⟨unhide HE, rfl, (unhide HOWN).2.2⟩⟩
end Go.Proofs.YtjnggnhgambmkaaGreat

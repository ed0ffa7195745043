import Derived.Test.YtjnggnhgambmkaaGreatRdK
set_option linter.unusedSimpArgs false
set_option linter.unusedVariables false
namespace Go.Proofs.YtjnggnhgambmkaaGreat
open Go.RowKit Go.Sort

theorem and_u64 (a b : Nat) (ha : a < 18446744073709551616) (hb : b < 18446744073709551616) : bits .and .u64 (a : Int) (b : Int) = ((a &&& b : Nat) : Int) := by
  have hx : a &&& b < 2 ^ 64 := Nat.and_lt_two_pow _ (by omega)
  have h1 : (BitVec.ofInt 64 (a : Int)).toNat = a := by
    rw [BitVec.ofInt_natCast, BitVec.toNat_ofNat]; exact Nat.mod_eq_of_lt (by omega)
  have h2 : (BitVec.ofInt 64 (b : Int)).toNat = b := by
    rw [BitVec.ofInt_natCast, BitVec.toNat_ofNat]; exact Nat.mod_eq_of_lt (by omega)
  show IntKind.u64.wrap ((BitVec.ofInt 64 (a : Int) &&& BitVec.ofInt 64 (b : Int)).toNat : Int) = _
  rw [BitVec.toNat_and, h1, h2, IntKind.wrap_u64]
  omega
theorem and_mask (n : Nat) (h : n < 4294967296) : bits .and .u64 (n : Int) 4294967295 = (n : Int) := by
  have e : (4294967295 : Int) = ((2 ^ 32 - 1 : Nat) : Int) := rfl
  rw [e, and_u64 n _ (by omega) (by decide), Nat.and_two_pow_sub_one_eq_mod, Nat.mod_eq_of_lt (by omega)]
set_option maxHeartbeats 400000 in
set_option maxRecDepth 100000 in
theorem mul64_one (n : Nat) (hn : n ≤ 4096) (w : World) : Calls Tryz.prog 108 #[.int .u64 1, .int .u64 n] w fun e w' => e = .returned (.tuple #[.int .u64 0, .int .u64 n]) ∧ w' = w := by
  have h1 : bits .and .u64 1 4294967295 = 1 := by kernel_rfl
  have h2 := and_mask n (by omega)
  have h3 : bits .and .u64 0 4294967295 = 0 := by kernel_rfl
  have h4 : (n : Int) / 4294967296 = 0 := by omega
  have h5 : (n : Int) ≤ 4096 := by omega
  go_enter Tryz.func108, Tryz.ntmps108
  go_wp2
  go_ret2
  exact ⟨rfl, rfl⟩
set_option maxHeartbeats 400000 in
theorem mul_one (n : Nat) (hn : n ≤ 4096) (w : World) : Calls Tryz.prog 99 #[.int .u64 1, .int .u64 n] w fun e w' => e = .returned (.tuple #[.int .u64 0, .int .u64 n]) ∧ w' = w := by
  have HM := hide (mul64_one n hn w)
  go_enter Tryz.func99, Tryz.ntmps99
  go_wp2_with (go_at_call 108; refine (unhide HM).mono ?_; rintro e w1 ⟨rfl, rfl⟩)
  go_ret2
  exact ⟨rfl, rfl⟩
theorem wp_copy3 {w : World} {o : Oper} {a : Act} {K : Act → World → Prop} {Q : Exit → Act → World → Prop} (d s : Operand) (ho : o.op = .call { callee := .builtin .copy, args := #[d, s], argTypes := #[22, 22] })
    (g off dLen dCap : Nat) (ad : Addr) (sLen sCap : Nat) (hd : a.eval d = .slice (some ⟨g, off, none⟩) dLen dCap) (hs : a.eval s = .slice (some ad) sLen sCap)
    (n m : Nat) (ys zs : List Val) (hoff : off = n * 3) (h : RowL w g ys) (hm : m = Nat.min sLen dLen) (hz : zs.length = m) (hfit : n + m ≤ ys.length) (hsrc : ∀ j v, (zs.flatMap c3)[j]? = some v → w.cell? (ad.add j) = some v)
    (hK : ∀ w', RowL w' g (ys.take n ++ zs ++ ys.drop (n + m)) → (∀ B w0, Below B w0 w → B ≤ g → Below B w0 w') → K (a.put o.dst (goInt m)) w') : o.wp Tryz.prog a w K Q := by
  subst hoff
  obtain ⟨w', hrun, hr, hb⟩ := h.copy (ty := o.type) (dLen := dLen) (dCap := dCap) (sCap := sCap) hm hz hfit hsrc
  unfold Oper.wp
  simp [execOp, ho, resolve, invoke, builtin, hd, hs, hrun, Result.andThen]
  exact hK w' hr hb
theorem wpList_copy3 {w : World} {ops : Array Oper} {rest : List Oper} {o : Oper} {a : Act} {Q : Exit → Act → World → Prop} (hgd : o.guard = none) (d s : Operand) (ho : o.op = .call { callee := .builtin .copy, args := #[d, s], argTypes := #[22, 22] })
    (g off dLen dCap : Nat) (ad : Addr) (sLen sCap : Nat) (hd : a.eval d = .slice (some ⟨g, off, none⟩) dLen dCap) (hs : a.eval s = .slice (some ad) sLen sCap)
    (n m : Nat) (ys zs : List Val) (hoff : off = n * 3) (h : RowL w g ys) (hm : m = Nat.min sLen dLen) (hz : zs.length = m) (hfit : n + m ≤ ys.length) (hsrc : ∀ j v, (zs.flatMap c3)[j]? = some v → w.cell? (ad.add j) = some v)
    (hK : ∀ w', RowL w' g (ys.take n ++ zs ++ ys.drop (n + m)) → (∀ B w0, Below B w0 w → B ≤ g → Below B w0 w') → wpList Tryz.prog ops Q rest (a.put o.dst (goInt m)) w') : wpList Tryz.prog ops Q (o :: rest) a w := by
  refine wpList_plain hgd fun K hK' => ?_
  exact wp_copy3 d s ho g off dLen dCap ad sLen sCap hd hs n m ys zs hoff h hm hz hfit hsrc fun w' h1 h2 => hK' _ _ (hK w' h1 h2)
theorem one_cells {w : World} {sb : Nat} {x : Val} (h : w.rowIs sb 38 3 (box3 x)) : ∀ j v, (([x] : List Val).flatMap c3)[j]? = some v → w.cell? ((⟨sb, 0, none⟩ : Addr).add j) = some v := by
  intro j v hv
  have e : ([x] : List Val).flatMap c3 = c3 x := by simp
  rw [e] at hv
  obtain ⟨h0, h1, h2, _⟩ := box3_facts h
  match j, hv with
  | 0, hv => simp [c3] at hv; subst hv; simpa [Addr.add] using h0
  | 1, hv => simp [c3] at hv; subst hv; simpa [Addr.add] using h1
  | 2, hv => simp [c3] at hv; subst hv; simpa [Addr.add] using h2
  | j + 3, hv => simp [c3] at hv
theorem rep_next {n k m : Nat} (x : Val) (hm : k + m ≤ n) : (List.replicate k x ++ List.replicate (n - k) Val.null).take k ++ List.replicate m x ++ (List.replicate k x ++ List.replicate (n - k) Val.null).drop (k + m) = List.replicate (k + m) x ++ List.replicate (n - (k + m)) Val.null := by
  rw [List.take_append_of_le_length (by simp), List.take_of_length_le (by simp), List.replicate_append_replicate, List.drop_append, List.drop_of_length_le (by simp), List.nil_append, List.drop_replicate, List.length_replicate]
  congr 2; omega
theorem rep_src {w : World} {g n k m : Nat} {x : Val} (h : RowL w g (List.replicate k x ++ List.replicate (n - k) Val.null)) (hm : m ≤ k) : ∀ j v, ((List.replicate m x).flatMap c3)[j]? = some v → w.cell? ((⟨g, 0, none⟩ : Addr).add j) = some v := by
  intro j v hv
  have hj : j < m * 3 := by
    have := (List.getElem?_eq_some_iff.1 hv).1
    rw [flat_len, List.length_replicate] at this; exact this
  have e : (List.replicate k x ++ List.replicate (n - k) Val.null) = List.replicate m x ++ (List.replicate (k - m) x ++ List.replicate (n - k) Val.null) := by
    rw [← List.append_assoc, List.replicate_append_replicate]; congr 2; omega
  rw [e] at h
  have h2 := RowL.cell h (i := j) (v := v) (by
    rw [List.flatMap_append, List.getElem?_append_left (by rw [flat_len, List.length_replicate]; exact hj)]; exact hv)
  by_cases h0 : j = 0
  · subst h0; simpa [Addr.add] using h2
  · simpa [Addr.add, h0] using h2
theorem below_drew {a w : World} {B : Nat} (h : Below B a w) : Below B a { w with drawn := w.drawn + 1 } := ⟨h.os, h.tape, h.output, h.size, h.block⟩
set_option maxHeartbeats 400000 in
set_option maxRecDepth 100000 in
theorem repeat_any (sb n : Nat) (x : Val) (w : World) (h1 : 1 ≤ n) (hn : n ≤ 4096) (hx : w.rowIs sb 38 3 (box3 x)) :
    Calls Tryz.prog 85 #[.slice (some ⟨sb, 0, none⟩) 1 1, .int .i64 n] w fun e w' => ∃ v, e = .returned v ∧ OwnV w' w.heap.size v (List.replicate n x) ∧ Below w.heap.size w w' := by
  obtain ⟨i4, hi4, z40, z41, z42⟩ := info_parts Tryz.info38
  have HM := hide (mul_one n hn)
  have HX := hide hx
  have hni : (0 : Int) ≤ (n : Int) := by omega
  have hni2 : (n : Int) ≤ 4096 := by omega
  have hw : IntKind.u64.wrap (n : Int) = (n : Int) := by rw [IntKind.wrap_u64]; omega
  clear hx
  go_enter Tryz.func85, Tryz.ntmps85
  go_wp2_with (first
    | (go_at_call 99; refine (unhide HM _).mono ?_; rintro e w1 ⟨rfl, rfl⟩)
    | (at_make; refine wpList_make_rows _ rfl (.tmp 29) (.tmp 29) 22 rfl 38 i4 _ Tryz.underlying22 hi4 z40 3 z41 .i64 .i64 n rfl rfl (by rw [z42]; omega) (by omega) ?_))
  obtain ⟨w2, hrun, hr2, hb2⟩ := (RowL.made w1 n).copy (ty := 3) (n := 0) (dLen := n) (dCap := n) (sLen := 1) (sCap := 1) (m := 1) (a := ⟨sb, 0, none⟩) (zs := [x]) (Nat.min_eq_left h1).symm rfl (by rw [List.length_replicate]; omega) (one_cells ((unhide HX).alloc _))
  simp only [Nat.zero_mul, List.take_zero, List.nil_append, Nat.zero_add] at hrun hr2
  rw [hrun]
  have hb3 := hb2 w1.heap.size w1 (below_alloc (Below.refl _ _) _) (Nat.le_refl _)
  have HR2 : Hid (RowL w2 w1.heap.size (List.replicate 1 x ++ List.replicate (n - 1) Val.null)) := by
    rw [List.drop_replicate] at hr2
    exact hr2
  clear hr2 hb2 hrun HX HM
  go_wp2_with fail
  go_loopw [8] (fun s wr => ∃ k : Nat, 1 ≤ k ∧ k ≤ n ∧ s = .int .i64 (k : Int) ∧ RowL wr w1.heap.size (List.replicate k x ++ List.replicate (n - k) Val.null) ∧ Below w1.heap.size w1 wr) (fun s _ => n - (intOf s).toNat)
  case atStart => exact ⟨1, Nat.le_refl _, h1, rfl, unhide HR2, hb3⟩
  case round =>
    obtain ⟨k, hk1, hkn, rfl, hr, hb⟩ := hrel
    by_cases hlt : k < n
    · have h9 : (k : Int) < (n : Int) := by omega
      have HR := hide hr
      have HB := hide hb
      clear hr hb
      obtain ⟨m, hm⟩ : ∃ m, m = Nat.min k (n - k) := ⟨_, rfl⟩
      have hm' : m = min k (n - k) := hm
      have hm1 : 1 ≤ m ∧ m ≤ k ∧ k + m ≤ n := by omega
      have HMM := hide hm
      clear hm hm'
      go_upto_region 9 with fail
      refine wp_region_noPanic ?_
      refine wp_region_G (S := fun _ => True) (k := 9) (by kernel_rfl) ?_
      refine anyG_takel (i := 0) (v := (.int .i64 k)) [8, 9] rfl (by kernel_rfl) (by kernel_rfl) (by kernel_rfl) (by kernel_rfl) (fun _ _ _ h => h) (Or.inl ⟨by rfl, fun w' hSw => ?_⟩) trivial ?_
      · go_simp <;> omega
      try simp only [Act.put, List.setIfInBounds_toArray, List.set_cons_zero, List.set_cons_succ]
      refine anyG_takel (i := 1) (v := (.slice (some ⟨w1.heap.size, 0, none⟩) n n)) [3, 7, 8, 9] rfl (by kernel_rfl) (by kernel_rfl) (by kernel_rfl) (by kernel_rfl) (fun _ _ _ h => h) (Or.inl ⟨by rfl, fun w' hSw => ?_⟩) trivial ?_
      · go_simp <;> omega
      try simp only [Act.put, List.setIfInBounds_toArray, List.set_cons_zero, List.set_cons_succ]
      refine anyG_takel (i := 2) (v := (.int .i64 k)) [3, 7, 8, 9] rfl (by kernel_rfl) (by kernel_rfl) (by kernel_rfl) (by kernel_rfl) (fun _ _ _ h => h) (Or.inl ⟨by rfl, fun w' hSw => ?_⟩) trivial ?_
      · go_simp <;> omega
      try simp only [Act.put, List.setIfInBounds_toArray, List.set_cons_zero, List.set_cons_succ]
      refine anyG_takel (i := 3) (v := (.slice (some ⟨w1.heap.size, k * 3, none⟩) (n - k) (n - k))) [7, 8, 9] rfl (by kernel_rfl) (by kernel_rfl) (by kernel_rfl) (by kernel_rfl) (fun _ _ _ h => h) (Or.inl ⟨by rfl, fun w' hSw => ?_⟩) trivial ?_
      · go_simp <;> omega
      try simp only [Act.put, List.setIfInBounds_toArray, List.set_cons_zero, List.set_cons_succ]
      refine anyG_takel (i := 4) (v := (.slice (some ⟨w1.heap.size, 0, none⟩) n n)) [6, 7, 8, 9] rfl (by kernel_rfl) (by kernel_rfl) (by kernel_rfl) (by kernel_rfl) (fun _ _ _ h => h) (Or.inl ⟨by rfl, fun w' hSw => ?_⟩) trivial ?_
      · go_simp <;> omega
      try simp only [Act.put, List.setIfInBounds_toArray, List.set_cons_zero, List.set_cons_succ]
      refine anyG_takel (i := 5) (v := (.int .i64 k)) [6, 7, 8, 9] rfl (by kernel_rfl) (by kernel_rfl) (by kernel_rfl) (by kernel_rfl) (fun _ _ _ h => h) (Or.inl ⟨by rfl, fun w' hSw => ?_⟩) trivial ?_
      · go_simp <;> omega
      try simp only [Act.put, List.setIfInBounds_toArray, List.set_cons_zero, List.set_cons_succ]
      refine anyG_takel (i := 6) (v := (.slice (some ⟨w1.heap.size, 0, none⟩) k n)) [7, 8, 9] rfl (by kernel_rfl) (by kernel_rfl) (by kernel_rfl) (by kernel_rfl) (fun _ _ _ h => h) (Or.inl ⟨by rfl, fun w' hSw => ?_⟩) trivial ?_
      · go_simp <;> omega
      try simp only [Act.put, List.setIfInBounds_toArray, List.set_cons_zero, List.set_cons_succ]
      refine anyG_one (i := 7) (by kernel_rfl) ?_
      refine wpOp_lit rfl (by rfl) fun K hK => ?_
      refine wp_copy3 (.tmp 41) (.tmp 44) (by rfl) w1.heap.size (k * 3) (n - k) (n - k) ⟨w1.heap.size, 0, none⟩ k n (by rfl) (by rfl) k m _ (List.replicate m x) rfl (unhide HR) (unhide HMM) (List.length_replicate ..) (by rw [List.length_append, List.length_replicate, List.length_replicate]; omega) (rep_src (unhide HR) hm1.2.1) ?_
      intro w3 hr3 hb3
      have hB3 := hb3 w1.heap.size w1 (below_drew (unhide HB)) (Nat.le_refl _)
      rw [rep_next x hm1.2.2] at hr3
      replace hr3 := hide hr3
      clear hb3
      go_simp
      refine unhide hK _ _ ⟨fun _ => trivial, ?_⟩
      clear hK K
      refine anyG_one (i := 8) (by kernel_rfl) ?_
      refine wpOp_lit rfl (by rfl) fun K hK => ?_
      go_simp
      refine unhide hK _ _ ⟨fun _ => trivial, ?_⟩
      clear hK K
      refine anyG_one (i := 9) (by kernel_rfl) ?_
      refine wpOp_lit rfl (by rfl) fun K hK => ?_
      go_simp
      refine unhide hK _ _ ⟨fun _ => trivial, ?_⟩
      clear hK K
      refine anyG_done (by kernel_rfl) ?_ _
      refine NoPanic.normal ?_
      go_wp2
      have ew : IntKind.i64.wrap ((k : Int) + (m : Int)) = ((k + m : Nat) : Int) := by rw [IntKind.wrap_i64]; omega
      rw [ew]
      exact ⟨⟨k + m, by omega, hm1.2.2, rfl, unhide hr3, hB3⟩, by simp [intOf]; omega⟩
    · have h9 : ¬ (k : Int) < (n : Int) := by omega
      have ek : k = n := by omega
      subst ek
      have HE : Hid (OwnV wr w1.heap.size (.slice (some ⟨w1.heap.size, 0, none⟩) k k) (List.replicate k x) ∧ Below w1.heap.size w1 wr) := by
        simp only [Nat.sub_self, List.replicate_zero, List.append_nil] at hr
        have := hr.own (B := w1.heap.size) (Nat.le_refl _) (by rw [List.length_replicate]; omega)
        rw [List.length_replicate] at this
        exact ⟨this, hb⟩
      clear hr hb
      go_wp2
      go_ret
      exact ⟨_, rfl, unhide HE⟩
end Go.Proofs.YtjnggnhgambmkaaGreat

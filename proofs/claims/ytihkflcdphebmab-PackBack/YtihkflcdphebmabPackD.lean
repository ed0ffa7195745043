import Derived.Test.YtihkflcdphebmabAnyG
set_option linter.unusedSimpArgs false
set_option linter.unusedVariables false
namespace Go.Proofs.Ytihkflcdphebmab
open Go.RowKit Go.Sort Go.Lib

/-- A text's bytes. -/
def txt (s : ByteArray) : List Int := s.data.toList.map fun b => (b.toNat : Int)
theorem txt_len (s : ByteArray) : (txt s).length = s.size := by rw [txt, List.length_map, Array.length_toList]; rfl
theorem txt_cells (s : ByteArray) : (txt s).map (Value.int .u8) = strCells s := by simp [txt, strCells]
theorem toB_txt (s : ByteArray) : toB (txt s) = s := by
  rw [toB_eq]
  apply ByteArray.ext
  simp only [txt, List.map_map]
  have : s.data.toList.map (ofI ∘ fun b => (b.toNat : Int)) = s.data.toList := by
    rw [List.map_congr_left (g := id)]
    · simp
    · intro b _
      simp [ofI]
  rw [this]
/-- Append a text: where the row lies then. -/
theorem append_str {base n : Nat} {i : TypeInfo} {w : World} {v : Value} {xs : List Value} (ty : TypeId) (hi : Try.prog.info? 5 = some i) (hz : i.zero = some (.int .u8 0)) (hsize : i.size = 1) (hby : i.bytes = 1)
    (hown : w.ownsRow base 5 1 v n xs) (s : ByteArray) (hn : n + s.size ≤ 140737488355328) (hbase : base ≤ w.heap.size) :
    ∃ v' w', (Builtin.append_ #[76, 9] ty #[v, .string s]).run Try.prog w = .ok v' w' ∧ w'.ownsRow base 5 1 v' (n + s.size) (xs ++ strCells s) ∧ w.grownBy w' v.ownBlock ∧ (v'.ownBlock = v.ownBlock ∨ v'.ownBlock = some w.heap.size) := by
  have h63 : n + s.size ≤ maxLen := by unfold maxLen; omega
  obtain ⟨v', w', hr, ho, hg, hiff⟩ := run_append_own_string (P := Try.prog) w base 76 9 ty 5 i Try.underlying76 Try.underlying9 hi hz hsize hby v n xs hown s h63 hn hbase
  refine ⟨v', w', hr, ho, hg, ?_⟩
  have hxl : xs.length = n := by simpa using hown.1
  rcases hown.2 with ⟨rfl, rfl⟩ | ⟨g, cap, cur, rfl, hbg, hgc, hnc, hcm, hcs, htake⟩
  · by_cases hm : s.size = 0
    · rw [hiff.2 ⟨rfl, hm⟩]; exact .inl rfl
    · have h2 := run_append_nil_string (P := Try.prog) w 76 9 ty 5 i (.int .u8 0) Try.underlying76 Try.underlying9 hi hz s (by omega) (by omega) (by rw [hby]; omega)
      rw [hr] at h2
      injection h2 with h3 h4
      rw [h3]
      exact .inr rfl
  · by_cases hroom : n + s.size ≤ cap
    · have h2 := run_append_room_string (P := Try.prog) w 76 9 ty 5 i Try.underlying76 Try.underlying9 hi hsize g n cap cur hgc s hroom (by omega)
      rw [hr] at h2
      injection h2 with h3 h4
      rw [h3]
      exact .inl rfl
    · have holds : ∀ j u, xs[j]? = some u → w.cell? ((⟨g, 0, none⟩ : Addr).add j) = some u := World.ownsRow.cells hown (g := g) rfl
      have h2 := run_append_grow_string (P := Try.prog) w 76 9 ty 5 i (.int .u8 0) Try.underlying76 Try.underlying9 hi hz ⟨g, 0, none⟩ n cap xs (by rw [hsize]; simpa using hxl) holds s (by omega) (by omega) (by rw [hby]; exact growslice_fits (by omega) (by omega))
      rw [hr] at h2
      injection h2 with h3 h4
      rw [h3]
      exact .inr rfl
theorem Grew.alloc (w : World) (v : Value) (o : Obj) : Grew w (w.alloc o) v v := by
  refine ⟨⟨rfl, rfl, rfl, by simp, fun i hi _ => ?_⟩, .inl rfl⟩
  exact Below.heap_alloc w o i hi
theorem Grew.drew (w : World) (v : Value) : Grew w w.drew v v := ⟨⟨rfl, rfl, rfl, Nat.le_refl _, fun _ _ _ => rfl⟩, .inl rfl⟩

/-- A value, plain. -/
def plainL (x : Val) : List Int := if x.k == 1 then beL (IntKind.u64.wrap x.n) 8 8 else beL (x.s.size : Int) 2 2 ++ txt x.s

theorem wp_append_str {w : World} {o : Oper} {a : Act} {K : Act → World → Prop} {Q : Exit → Act → World → Prop} (sl x : Operand)
    (ho : o.op = .call { callee := .builtin .append, args := #[sl, x], argTypes := #[76, 9] }) (base : Nat) (i : TypeInfo) (hi : Try.prog.info? 5 = some i) (hz : i.zero = some (.int .u8 0)) (hsize : i.size = 1) (hby : i.bytes = 1)
    (v : Value) (n : Nat) (xs : List Value) (hs : a.eval sl = v) (hown : w.ownsRow base 5 1 v n xs) (s : ByteArray) (hx : a.eval x = .string s) (hn : n + s.size ≤ 140737488355328) (hbase : base ≤ w.heap.size)
    (h : ∀ v' w', w'.ownsRow base 5 1 v' (n + s.size) (xs ++ strCells s) → w.grownBy w' v.ownBlock → (v'.ownBlock = v.ownBlock ∨ v'.ownBlock = some w.heap.size) → K (a.put o.dst v') w') :
    Oper.wp Try.prog o a w K Q := by
  obtain ⟨v', w', hr, h2, h3, h4⟩ := append_str o.type hi hz hsize hby hown s hn hbase
  unfold Oper.wp execOp
  simp only [ho, resolve, invoke, builtin, Sem.run_bind, Sem.run_pure, Result.andThen_ok, List.map_toArray, List.map_cons, List.map_nil, hs, hx, hr]
  exact h v' w' h2 h3 h4

theorem wrap_size {n : Nat} (h : n ≤ 1000000) : IntKind.u64.wrap (n : Int) = n := by
  simp [IntKind.wrap, IntKind.signed, IntKind.bits]
  omega
theorem plainL_len (x : Val) : (plainL x).length ≤ 8 + x.s.size := by
  unfold plainL
  split
  · rw [beL_len]; omega
  · rw [List.length_append, beL_len, txt_len]; omega

set_option maxHeartbeats 2000000 in
set_option maxRecDepth 100000 in
theorem applain_any (base : Nat) (zs : List Int) (x : Val) (v : Value) (w : World) (hown : OwnB w base v zs) (hlen : zs.length + x.s.size ≤ 140737488300000) (hs : x.s.size ≤ 1000000) (hbase : base ≤ w.heap.size) :
    Calls Try.prog 76 #[v, x.v] w fun e w' => ∃ v', e = .returned v' ∧ OwnB w' base v' (zs ++ plainL x) ∧ Grew w w' v v' := by
  obtain ⟨i0, hi, hz0, hz1, hz2⟩ := info_parts Try.info5
  rw [x.open_]
  rcases Bool.eq_false_or_eq_true (x.k == 1) with k1 | k1
  · have HV : Hid (plainL x = beL (IntKind.u64.wrap x.n) 8 8) := by show _ = _; rw [plainL, k1]; rfl
    have HC := hide (fun W o (h : W = w.alloc o) => appnum_any base zs (IntKind.u64.wrap x.n) 8 v W (by omega) (by rw [h]; exact World.ownsRow.alloc hown o) (by omega) (by rw [h]; simp; omega))
    go_enter Try.func76, Try.ntmps76
    go_wp2_with (go_at_call 58; refine (unhide HC _ _ rfl).mono ?_; rintro e w2 ⟨v2, rfl, ho2, hg2⟩)
    go_ret
    exact ⟨_, rfl, by rw [unhide HV]; exact ho2, (Grew.alloc w v _).trans hg2⟩
  · have HV : Hid (plainL x = beL (x.s.size : Int) 2 2 ++ txt x.s) := by show _ = _; rw [plainL, k1]; rfl
    have hs2 : (x.s.size : Int) ≤ 1000000 := by omega
    have hlt : ∀ g, v.ownBlock = some g → g < w.heap.size := fun g h => (ownB_lt hown h).2
    have HLT := hide hlt
    have HC : Hid (∀ W, W = (w.alloc (.cells #[.int .i64 x.k, .int .i64 x.n, .string x.s] 40)).drew → Calls Try.prog 58 #[v, .int .u64 (x.s.size : Int), .int .i64 2] W fun e w' => ∃ v', e = .returned v' ∧ (OwnB w' base v' (zs ++ beL (x.s.size : Int) 2 2) ∧ Grew w w' v v') ∧ w'.cell? ⟨w.heap.size, 2, none⟩ = some (.string x.s) ∧ v'.ownBlock ≠ some w.heap.size) := fun W h => by
      refine (appnum_any base zs (x.s.size : Int) 2 v W (by omega) (by rw [h]; exact World.ownsRow.drew (World.ownsRow.alloc hown _)) (by omega) (by rw [h]; simp; omega)).mono fun e w' ⟨v', he, ho, hg⟩ => ⟨v', he, ⟨ho, ?_⟩, ?_, ?_⟩
      · rw [h] at hg
        exact ((Grew.alloc w v _).trans (Grew.drew _ v)).trans hg
      · rw [grew_kept hg (by rw [h]; simp) (fun h => by have := hlt _ h; omega) 2, h]
        simp [go_sem]
      · rw [h] at hg
        intro e
        rcases hg.2 with e2 | ⟨g, e2, h2⟩
        · rw [e] at e2; have := hlt _ e2.symm; omega
        · rw [e] at e2; injection e2 with e3; simp at h2; omega
    clear hlt
    go_enter Try.func76, Try.ntmps76
    go_upto_region 3 with fail
    have hS0 : (fun w' : World => w'.cell? ⟨w.heap.size, 2, none⟩ = some (.string x.s)) (w.alloc (.cells #[.int .i64 x.k, .int .i64 x.n, .string x.s] 40)).drew := by simp [go_sem]
    refine wp_region_noPanic ?_
    refine wp_region_G (S := fun w' : World => w'.cell? ⟨w.heap.size, 2, none⟩ = some (.string x.s)) (k := 8) (by kernel_rfl) ?_
    refine anyG_takel (i := 0) (v := v) [5, 8] rfl (by kernel_rfl) (by kernel_rfl) (by kernel_rfl) (by kernel_rfl) (fun _ _ _ h => h) (Or.inl ⟨by rfl, fun w' hSw => ?_⟩) hS0 ?_
    · dsimp only at hSw; go_simp
    try simp only [Act.put, List.setIfInBounds_toArray, List.set_cons_zero, List.set_cons_succ]
    refine anyG_takel (i := 1) (v := (.pointer (some ⟨w.heap.size, 2, none⟩))) [2, 3, 4, 5, 8] rfl (by kernel_rfl) (by kernel_rfl) (by kernel_rfl) (by kernel_rfl) (fun _ _ _ h => h) (Or.inl ⟨by rfl, fun w' hSw => ?_⟩) hS0 ?_
    · dsimp only at hSw; go_simp
    try simp only [Act.put, List.setIfInBounds_toArray, List.set_cons_zero, List.set_cons_succ]
    refine anyG_takel (i := 2) (v := (.string x.s)) [3, 4, 5, 8] rfl (by kernel_rfl) (by kernel_rfl) (by kernel_rfl) (by kernel_rfl) (fun _ _ _ h => h) (Or.inl ⟨by rfl, fun w' hSw => ?_⟩) hS0 ?_
    · dsimp only at hSw; go_simp
    try simp only [Act.put, List.setIfInBounds_toArray, List.set_cons_zero, List.set_cons_succ]
    refine anyG_takel (i := 3) (v := (.int .i64 x.s.size)) [4, 5, 8] rfl (by kernel_rfl) (by kernel_rfl) (by kernel_rfl) (by kernel_rfl) (fun _ _ _ h => h) (Or.inl ⟨by rfl, fun w' hSw => ?_⟩) hS0 ?_
    · dsimp only at hSw; go_simp
    try simp only [Act.put, List.setIfInBounds_toArray, List.set_cons_zero, List.set_cons_succ]
    refine anyG_takel (i := 4) (v := (.int .u64 x.s.size)) [5, 8] rfl (by kernel_rfl) (by kernel_rfl) (by kernel_rfl) (by kernel_rfl) (fun _ _ _ h => h) (Or.inl ⟨by rfl, fun w' hSw => ?_⟩) hS0 ?_
    · dsimp only at hSw; go_simp; exact wrap_size hs
    try simp only [Act.put, List.setIfInBounds_toArray, List.set_cons_zero, List.set_cons_succ]
    refine anyG_takel (i := 6) (v := (.pointer (some ⟨w.heap.size, 2, none⟩))) [7, 8] rfl (by kernel_rfl) (by kernel_rfl) (by kernel_rfl) (by kernel_rfl) (fun _ _ _ h => h) (Or.inl ⟨by rfl, fun w' hSw => ?_⟩) hS0 ?_
    · dsimp only at hSw; go_simp
    try simp only [Act.put, List.setIfInBounds_toArray, List.set_cons_zero, List.set_cons_succ]
    refine anyG_takel (i := 7) (v := (.string x.s)) [8] rfl (by kernel_rfl) (by kernel_rfl) (by kernel_rfl) (by kernel_rfl) (fun _ _ _ h => h) (Or.inl ⟨by rfl, fun w' hSw => ?_⟩) hS0 ?_
    · dsimp only at hSw; go_simp
    try simp only [Act.put, List.setIfInBounds_toArray, List.set_cons_zero, List.set_cons_succ]
    clear hS0
    refine anyG_one (i := 5) (by kernel_rfl) ?_
    refine wpOp_lit rfl (by rfl) fun K hK => ?_
    go_simp
    refine (unhide HC _ rfl).mono ?_
    rintro e w2 ⟨v2, rfl, HO2, hS2, hne2⟩
    replace HO2 := hide HO2
    go_simp
    refine unhide hK _ _ ⟨fun _ => hS2, ?_⟩
    clear hK K
    refine anyG_one (i := 8) (by kernel_rfl) ?_
    refine wpOp_lit rfl (by rfl) fun K hK => ?_
    refine wp_append_str (.tmp 18) (.tmp 20) (by rfl) base i0 hi hz0 hz1 hz2 v2 _ _ (by rfl) (unhide HO2).1 x.s (by rfl) (by rw [List.length_append, beL_len]; omega) (by have := (unhide HO2).2.1.size; omega) ?_
    intro v3 w3 ho3 hgr3 hat3
    have hS3 : w3.cell? ⟨w.heap.size, 2, none⟩ = some (.string x.s) := by rw [hgr3.cell_far ⟨w.heap.size, 2, none⟩ (World.block_lt_of_cell? _ _ hS2) (fun e => hne2 e.symm)]; exact hS2
    have HO3 := hide ho3
    have hg3 : Grew w2 w3 v2 v3 := ⟨hgr3, by rcases hat3 with h | h; exact .inl h; exact .inr ⟨_, h, Nat.le_refl _⟩⟩
    have HG3 := hide ((unhide HO2).2.trans hg3)
    clear ho3 hgr3 hat3 hg3
    go_simp
    refine unhide hK _ _ ⟨fun hh => absurd hh (by decide), ?_⟩
    clear hK K
    refine anyG_one (i := 9) (by kernel_rfl) ?_
    refine wpOp_lit rfl (by rfl) fun K hK => ?_
    go_simp
    refine unhide hK _ _ ⟨fun hh => absurd hh (by decide), ?_⟩
    clear hK K
    refine anyG_done (by kernel_rfl) ?_ _
    refine NoPanic.normal ?_
    go_wp2
    go_ret
    refine ⟨_, rfl, ?_, unhide HG3⟩
    rw [unhide HV, ← List.append_assoc]
    refine ownB_app (txt_len x.s) ?_
    rw [txt_cells]
    exact unhide HO3
end Go.Proofs.Ytihkflcdphebmab

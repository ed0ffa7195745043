import Derived.Test.YtcpndojkfngioaaGreatCkK
import Derived.Test.YtcpndojkfngioaaGreatLkA
set_option linter.unusedSimpArgs false
set_option linter.unusedVariables false
namespace Go.Proofs.YtcpndojkfngioaaGreat
open Go.RowKit Go.Sort

/-- A node: a plan that has been looked at. -/
structure Nv where
  q : Pl
  m : Pm
  t : Tb
  tm : Tm
  k : Ls
  na : Option Addr
  nl : Nat
  nc : Nat
def Nv.v (x : Nv) : Value := .agg #[.int .i64 x.q.op, .string x.q.tab, .slice x.m.aE x.q.ex.length x.m.cE, .slice x.m.aC x.q.cols.length x.m.cC, .slice x.m.aK x.q.keys.length x.m.cK, .slice x.m.aA x.q.aggs.length x.m.cA, .int .i64 x.q.fn, .int .i64 x.q.col, .int .i64 x.q.n, .int .i64 x.q.off, .slice x.m.aP x.q.args.length x.m.cP, .string x.t.name, .slice x.tm.aC x.t.cols.length x.tm.cC, .slice x.tm.aR x.t.rows.length x.tm.cR, .slice x.k.1 x.k.2.2.length x.k.2.1, .slice x.na x.nl x.nc]
theorem Nv.open_ (x : Nv) : x.v = .agg #[.int .i64 x.q.op, .string x.q.tab, .slice x.m.aE x.q.ex.length x.m.cE, .slice x.m.aC x.q.cols.length x.m.cC, .slice x.m.aK x.q.keys.length x.m.cK, .slice x.m.aA x.q.aggs.length x.m.cA, .int .i64 x.q.fn, .int .i64 x.q.col, .int .i64 x.q.n, .int .i64 x.q.off, .slice x.m.aP x.q.args.length x.m.cP, .string x.t.name, .slice x.tm.aC x.t.cols.length x.tm.cC, .slice x.tm.aR x.t.rows.length x.tm.cR, .slice x.k.1 x.k.2.2.length x.k.2.1, .slice x.na x.nl x.nc] := rfl
def Nv.cs (x : Nv) : List Value := [.int .i64 x.q.op, .string x.q.tab, .slice x.m.aE x.q.ex.length x.m.cE, .slice x.m.aC x.q.cols.length x.m.cC, .slice x.m.aK x.q.keys.length x.m.cK, .slice x.m.aA x.q.aggs.length x.m.cA, .int .i64 x.q.fn, .int .i64 x.q.col, .int .i64 x.q.n, .int .i64 x.q.off, .slice x.m.aP x.q.args.length x.m.cP, .string x.t.name, .slice x.tm.aC x.t.cols.length x.tm.cC, .slice x.tm.aR x.t.rows.length x.tm.cR, .slice x.k.1 x.k.2.2.length x.k.2.1, .slice x.na x.nl x.nc]
abbrev Nv.box (x : Nv) : Obj := .cells #[.int .i64 x.q.op, .string x.q.tab, .slice x.m.aE x.q.ex.length x.m.cE, .slice x.m.aC x.q.cols.length x.m.cC, .slice x.m.aK x.q.keys.length x.m.cK, .slice x.m.aA x.q.aggs.length x.m.cA, .int .i64 x.q.fn, .int .i64 x.q.col, .int .i64 x.q.n, .int .i64 x.q.off, .slice x.m.aP x.q.args.length x.m.cP, .string x.t.name, .slice x.tm.aC x.t.cols.length x.tm.cC, .slice x.tm.aR x.t.rows.length x.tm.cR, .slice x.k.1 x.k.2.2.length x.k.2.1, .slice x.na x.nl x.nc] 51
/-- Its sixteen cells. -/
structure Sxt (w : World) (b off : Nat) (x : Nv) : Prop where
  e : Elv w b off x.q x.m
  t : Tri w b (off + 11) x.t x.tm
  k : w.cell? ⟨b, off + 14, none⟩ = some (.slice x.k.1 x.k.2.2.length x.k.2.1)
  a : w.cell? ⟨b, off + 15, none⟩ = some (.slice x.na x.nl x.nc)
theorem Sxt.later {w w' : World} {b off : Nat} {x : Nv} (h : Sxt w b off x) (hb : Below w.heap.size w w') : Sxt w' b off x := ⟨h.e.later hb, h.t.later hb, clater h.k hb, clater h.a hb⟩
set_option maxRecDepth 100000 in
set_option maxHeartbeats 4000000 in
theorem Sxt.load {w : World} {b off : Nat} {x : Nv} (h : Sxt w b off x) : (Instr.loadAt 51 (.pointer (some ⟨b, off, none⟩))).run Tryz.prog w = .ok x.v w := by
  obtain ⟨⟨c0, c1, c2, c3, c4, c5, c6, c7, c8, c9, c10⟩, ⟨d0, d1, d2⟩, k, a⟩ := h
  simp only [Nat.add_assoc, Nat.reduceAdd] at d0 d1 d2
  unfold Nv.v
  go_simp
/-- The nodes of the Args, with their kinds. -/
def NsAt (w : World) (a : Option Addr) (ys : List Nv) : Prop := ys = [] ∨ ∃ g, a = some ⟨g, 0, none⟩ ∧ ∀ (i : Nat) y, ys[i]? = some y → Sxt w g (i * 16) y ∧ IntsAt w y.k.1 y.k.2.2
theorem NsAt.later {w w' : World} {a : Option Addr} {ys : List Nv} (h : NsAt w a ys) (hb : Below w.heap.size w w') : NsAt w' a ys := by
  rcases h with h | ⟨g, ha, h⟩
  · exact .inl h
  · exact .inr ⟨g, ha, fun i y hy => ⟨(h i y hy).1.later hb, (h i y hy).2.later hb⟩⟩
theorem NsAt.get {w : World} {a : Option Addr} {ys : List Nv} {i : Nat} {y : Nv} (h : NsAt w a ys) (hy : ys[i]? = some y) : ∃ g, a = some ⟨g, 0, none⟩ ∧ Sxt w g (i * 16) y ∧ IntsAt w y.k.1 y.k.2.2 := by
  rcases h with h | ⟨g, ha, h⟩
  · rw [h] at hy; simp at hy
  · exact ⟨g, ha, (h i y hy).1, (h i y hy).2⟩
/-- The kinds over which an operator's own numbers speak. -/
def overK (op : Int) (ins : List (List Int)) : List Int := if op == 1 || op == 12 then [] else if op == 4 || op == 5 then in0 ins ++ in1 ins else in0 ins
def insOf (ys : List Nv) : List (List Int) := ys.map fun y => y.k.2.2
theorem two_ls (w : World) (x y : Ls) : ∀ (i : Nat) z, [x, y][i]? = some z → (w.alloc (.cells #[.slice x.1 x.2.2.length x.2.1, .slice y.1 y.2.2.length y.2.1] 23)).cell? ⟨w.heap.size, i, none⟩ = some (.slice z.1 z.2.2.length z.2.1) := by
  intro i z hz
  match i with
  | 0 => obtain rfl : x = z := by simpa using hz
         simp [go_sem]
  | 1 => obtain rfl : y = z := by simpa using hz
         simp [go_sem]
  | i + 2 => simp at hz
set_option maxHeartbeats 4000000 in
set_option maxRecDepth 100000 in
/-- over (61). -/
theorem over_any (b : Nat) (x : Nv) (ys : List Nv) (hnd : Need x.q) (hl : x.nl = x.q.args.length) (hyl : ys.length = x.q.args.length) (hks : ∀ y ∈ ys, KOk y.k.2.2) (w : World) (hx : Sxt w b 0 x) (hys : NsAt w x.na ys) : Calls Tryz.prog 61 #[.pointer (some ⟨b, 0, none⟩)] w (OwnQ (overK x.q.op (insOf ys)) w) := by
  obtain ⟨R, hR⟩ : ∃ R, R = overK x.q.op (insOf ys) := ⟨_, rfl⟩
  rw [← hR]
  have c0 := hx.e.c0
  have c15 := hx.a
  simp only [Nat.zero_add] at c15
  have HYS := hide hys
  have HKS := hide hks
  rcases need_op hnd with o | o | o | o | o | o | o | o | o | o | o | o
  · have e1 : (x.q.op == 1) = true := by rw [o]; rfl
    obtain rfl : R = [] := by rw [hR]; unfold overK; rw [o]; rfl
    clear o hR hys hks hx hnd hl hyl
    go_enter Tryz.func61, Tryz.ntmps61
    go_wp2
    go_ret
    exact ⟨none, 0, rfl, own_nil _ _, Below.refl _ _⟩
  · have hla : 1 ≤ x.q.args.length := by have := (need2 o hnd).1; omega
    have e1 : (x.q.op == 1) = false := by rw [o]; rfl
    have e12 : (x.q.op == 12) = false := by rw [o]; rfl
    have e4 : (x.q.op == 4) = false := by rw [o]; rfl
    have e5 : (x.q.op == 5) = false := by rw [o]; rfl
    obtain ⟨y0, hy0⟩ : ∃ y, ys[0]? = some y := ⟨_, List.getElem?_eq_getElem (by omega)⟩
    obtain ⟨g, ea, hs0, hk0⟩ := (unhide HYS).get hy0
    have d0 := hs0.k
    simp only [Nat.zero_mul, Nat.zero_add] at d0
    have hkl0 := (unhide HKS y0 (List.mem_of_getElem? hy0)).hi
    have HK0 := hide hk0
    have hI0 : in0 (insOf ys) = y0.k.2.2 := by unfold in0 insOf; rw [List.getElem?_map, hy0]; rfl
    rw [ea] at c15
    obtain ⟨⟨ax, cx, k0⟩, hyk⟩ : ∃ z, z = y0.k := ⟨_, rfl⟩
    rw [← hyk] at d0 hkl0 HK0 hI0
    simp only at d0 hkl0 HK0 hI0
    obtain rfl : R = k0 := by rw [hR]; unfold overK; rw [o]; exact hI0
    have hN0 : (0 : Int) < (x.nl : Int) := by omega
    have HC := hide (clone_any R ax cx w (by omega) (unhide HK0))
    clear o hla hR hI0 hs0 hk0 hy0 hyk ea hys hks hx hnd hl hyl
    go_enter Tryz.func61, Tryz.ntmps61
    go_wp2_with (go_at_call 82; refine (unhide HC).mono ?_; rintro r w1 ⟨a1, c1, rfl, hO1, hb1⟩)
    go_ret
    exact ⟨a1, c1, rfl, hO1, hb1⟩
  · have hla : 1 ≤ x.q.args.length := by have := (need3 o hnd).1; omega
    have e1 : (x.q.op == 1) = false := by rw [o]; rfl
    have e12 : (x.q.op == 12) = false := by rw [o]; rfl
    have e4 : (x.q.op == 4) = false := by rw [o]; rfl
    have e5 : (x.q.op == 5) = false := by rw [o]; rfl
    obtain ⟨y0, hy0⟩ : ∃ y, ys[0]? = some y := ⟨_, List.getElem?_eq_getElem (by omega)⟩
    obtain ⟨g, ea, hs0, hk0⟩ := (unhide HYS).get hy0
    have d0 := hs0.k
    simp only [Nat.zero_mul, Nat.zero_add] at d0
    have hkl0 := (unhide HKS y0 (List.mem_of_getElem? hy0)).hi
    have HK0 := hide hk0
    have hI0 : in0 (insOf ys) = y0.k.2.2 := by unfold in0 insOf; rw [List.getElem?_map, hy0]; rfl
    rw [ea] at c15
    obtain ⟨⟨ax, cx, k0⟩, hyk⟩ : ∃ z, z = y0.k := ⟨_, rfl⟩
    rw [← hyk] at d0 hkl0 HK0 hI0
    simp only at d0 hkl0 HK0 hI0
    obtain rfl : R = k0 := by rw [hR]; unfold overK; rw [o]; exact hI0
    have hN0 : (0 : Int) < (x.nl : Int) := by omega
    have HC := hide (clone_any R ax cx w (by omega) (unhide HK0))
    clear o hla hR hI0 hs0 hk0 hy0 hyk ea hys hks hx hnd hl hyl
    go_enter Tryz.func61, Tryz.ntmps61
    go_wp2_with (go_at_call 82; refine (unhide HC).mono ?_; rintro r w1 ⟨a1, c1, rfl, hO1, hb1⟩)
    go_ret
    exact ⟨a1, c1, rfl, hO1, hb1⟩
  · have hla : x.q.args.length = 2 := (need4 o hnd).1
    have e1 : (x.q.op == 1) = false := by rw [o]; rfl
    have e12 : (x.q.op == 12) = false := by rw [o]; rfl
    have e4 : (x.q.op == 4) = true := by rw [o]; rfl
    obtain ⟨y0, hy0⟩ : ∃ y, ys[0]? = some y := ⟨_, List.getElem?_eq_getElem (by omega)⟩
    obtain ⟨g, ea, hs0, hk0⟩ := (unhide HYS).get hy0
    have d0 := hs0.k
    simp only [Nat.zero_mul, Nat.zero_add] at d0
    have hkl0 := (unhide HKS y0 (List.mem_of_getElem? hy0)).hi
    have HK0 := hide hk0
    have hI0 : in0 (insOf ys) = y0.k.2.2 := by unfold in0 insOf; rw [List.getElem?_map, hy0]; rfl
    rw [ea] at c15
    obtain ⟨⟨ax, cx, k0⟩, hyk⟩ : ∃ z, z = y0.k := ⟨_, rfl⟩
    rw [← hyk] at d0 hkl0 HK0 hI0
    simp only at d0 hkl0 HK0 hI0
    obtain ⟨y1, hy1⟩ : ∃ y, ys[1]? = some y := ⟨_, List.getElem?_eq_getElem (by omega)⟩
    obtain ⟨g', ea', hs1, hk1⟩ := (unhide HYS).get hy1
    rw [ea] at ea'
    injection ea' with ea'
    injection ea' with ea'
    subst ea'
    have d1 := hs1.k
    simp only [Nat.one_mul, Nat.reduceAdd] at d1
    have hkl1 := (unhide HKS y1 (List.mem_of_getElem? hy1)).hi
    have HK1 := hide hk1
    have hI1 : in1 (insOf ys) = y1.k.2.2 := by unfold in1 insOf; rw [List.getElem?_map, hy1]; rfl
    obtain ⟨⟨ay, cy, k1⟩, hyk1⟩ : ∃ z, z = y1.k := ⟨_, rfl⟩
    rw [← hyk1] at d1 hkl1 HK1 hI1
    simp only at d1 hkl1 HK1 hI1
    have hRk : R = k0 ++ k1 := by rw [hR, ← hI0, ← hI1]; unfold overK; rw [o]; rfl
    have HRK := hide hRk
    have hN0 : (0 : Int) < (x.nl : Int) := by omega
    have hN1 : (1 : Int) < (x.nl : Int) := by omega
    have HC0 := hide c15
    have HD0 := hide d0
    have HD1 := hide d1
    have HCC := hide (fun (W : World) (hW : Below w.heap.size w W) (g2 : Nat) (hg2 : ∀ (i : Nat) z, [((ax, cx, k0) : Ls), (ay, cy, k1)][i]? = some z → W.cell? ⟨g2, i, none⟩ = some (.slice z.1 z.2.2.length z.2.1)) => concat_any [(ax, cx, k0), (ay, cy, k1)] g2 2 W (by simp) (by simp; omega) fun i z hz => ⟨hg2 i z hz, by
      match i with
      | 0 => obtain rfl : (ax, cx, k0) = z := by simpa using hz
             exact (unhide HK0).later hW
      | 1 => obtain rfl : (ay, cy, k1) = z := by simpa using hz
             exact (unhide HK1).later hW
      | i + 2 => simp at hz⟩)
    clear o hla hR hI0 hI1 hs0 hs1 hk0 hk1 hy0 hy1 hyk hyk1 ea hys hks hx hnd hl hyl hRk
    go_enter Tryz.func61, Tryz.ntmps61
    go_upto_region 7 with fail
    have HS0 := hide ((Below.refl w.heap.size w).drew)
    refine wp_region_noPanic ?_
    refine wp_region_G (S := fun w' : World => Below w.heap.size w w') (k := 16) (by kernel_rfl) ?_
    refine anyG_takel (i := 0) (v := (.pointer (some ⟨b, 0, none⟩))) [1, 2, 3, 4, 5, 6, 14, 15, 16] rfl (by kernel_rfl) (by kernel_rfl) (by kernel_rfl) (by kernel_rfl) (fun _ _ _ h => h) (Or.inl ⟨by rfl, fun w' hSw => ?_⟩) (unhide HS0) ?_
    · go_simp
    try simp only [Act.put, List.setIfInBounds_toArray, List.set_cons_zero, List.set_cons_succ]
    refine anyG_takel (i := 1) (v := (.pointer (some ⟨b, 0, none⟩))) [2, 3, 4, 5, 6, 14, 15, 16] rfl (by kernel_rfl) (by kernel_rfl) (by kernel_rfl) (by kernel_rfl) (fun _ _ _ h => h) (Or.inl ⟨by rfl, fun w' hSw => ?_⟩) (unhide HS0) ?_
    · go_simp
    try simp only [Act.put, List.setIfInBounds_toArray, List.set_cons_zero, List.set_cons_succ]
    refine anyG_takel (i := 2) (v := (.pointer (some ⟨b, 15, none⟩))) [3, 4, 5, 6, 14, 15, 16] rfl (by kernel_rfl) (by kernel_rfl) (by kernel_rfl) (by kernel_rfl) (fun _ _ _ h => h) (Or.inl ⟨by rfl, fun w' hSw => ?_⟩) (unhide HS0) ?_
    · go_simp
    try simp only [Act.put, List.setIfInBounds_toArray, List.set_cons_zero, List.set_cons_succ]
    refine anyG_takel (i := 3) (v := (.slice (some ⟨g, 0, none⟩) x.nl x.nc)) [4, 5, 6, 14, 15, 16] rfl (by kernel_rfl) (by kernel_rfl) (by kernel_rfl) (by kernel_rfl) (fun _ _ _ h => h) (Or.inl ⟨by rfl, fun w' hSw => ?_⟩) (unhide HS0) ?_
    · have e5 := clater (unhide HC0) hSw; go_simp
    try simp only [Act.put, List.setIfInBounds_toArray, List.set_cons_zero, List.set_cons_succ]
    refine anyG_takel (i := 4) (v := (.pointer (some ⟨g, 0, none⟩))) [5, 6, 14, 15, 16] rfl (by kernel_rfl) (by kernel_rfl) (by kernel_rfl) (by kernel_rfl) (fun _ _ _ h => h) (Or.inl ⟨by rfl, fun w' hSw => ?_⟩) (unhide HS0) ?_
    · (try go_simp); intro h; exact absurd hN0 (by rw [h]; simp)
    try simp only [Act.put, List.setIfInBounds_toArray, List.set_cons_zero, List.set_cons_succ]
    refine anyG_takel (i := 5) (v := (.pointer (some ⟨g, 14, none⟩))) [6, 14, 15, 16] rfl (by kernel_rfl) (by kernel_rfl) (by kernel_rfl) (by kernel_rfl) (fun _ _ _ h => h) (Or.inl ⟨by rfl, fun w' hSw => ?_⟩) (unhide HS0) ?_
    · go_simp
    try simp only [Act.put, List.setIfInBounds_toArray, List.set_cons_zero, List.set_cons_succ]
    refine anyG_takel (i := 6) (v := (.slice ax k0.length cx)) [14, 15, 16] rfl (by kernel_rfl) (by kernel_rfl) (by kernel_rfl) (by kernel_rfl) (fun _ _ _ h => h) (Or.inl ⟨by rfl, fun w' hSw => ?_⟩) (unhide HS0) ?_
    · have e5 := clater (unhide HD0) hSw; go_simp
    try simp only [Act.put, List.setIfInBounds_toArray, List.set_cons_zero, List.set_cons_succ]
    refine anyG_takel (i := 7) (v := (.pointer (some ⟨b, 0, none⟩))) [8, 9, 10, 11, 12, 13, 14, 15, 16] rfl (by kernel_rfl) (by kernel_rfl) (by kernel_rfl) (by kernel_rfl) (fun _ _ _ h => h) (Or.inl ⟨by rfl, fun w' hSw => ?_⟩) (unhide HS0) ?_
    · go_simp
    try simp only [Act.put, List.setIfInBounds_toArray, List.set_cons_zero, List.set_cons_succ]
    refine anyG_takel (i := 8) (v := (.pointer (some ⟨b, 0, none⟩))) [9, 10, 11, 12, 13, 14, 15, 16] rfl (by kernel_rfl) (by kernel_rfl) (by kernel_rfl) (by kernel_rfl) (fun _ _ _ h => h) (Or.inl ⟨by rfl, fun w' hSw => ?_⟩) (unhide HS0) ?_
    · go_simp
    try simp only [Act.put, List.setIfInBounds_toArray, List.set_cons_zero, List.set_cons_succ]
    refine anyG_takel (i := 9) (v := (.pointer (some ⟨b, 15, none⟩))) [10, 11, 12, 13, 14, 15, 16] rfl (by kernel_rfl) (by kernel_rfl) (by kernel_rfl) (by kernel_rfl) (fun _ _ _ h => h) (Or.inl ⟨by rfl, fun w' hSw => ?_⟩) (unhide HS0) ?_
    · go_simp
    try simp only [Act.put, List.setIfInBounds_toArray, List.set_cons_zero, List.set_cons_succ]
    refine anyG_takel (i := 10) (v := (.slice (some ⟨g, 0, none⟩) x.nl x.nc)) [11, 12, 13, 14, 15, 16] rfl (by kernel_rfl) (by kernel_rfl) (by kernel_rfl) (by kernel_rfl) (fun _ _ _ h => h) (Or.inl ⟨by rfl, fun w' hSw => ?_⟩) (unhide HS0) ?_
    · have e5 := clater (unhide HC0) hSw; go_simp
    try simp only [Act.put, List.setIfInBounds_toArray, List.set_cons_zero, List.set_cons_succ]
    refine anyG_takel (i := 11) (v := (.pointer (some ⟨g, 16, none⟩))) [12, 13, 14, 15, 16] rfl (by kernel_rfl) (by kernel_rfl) (by kernel_rfl) (by kernel_rfl) (fun _ _ _ h => h) (Or.inl ⟨by rfl, fun w' hSw => ?_⟩) (unhide HS0) ?_
    · (try go_simp); try (intro h; omega)
    try simp only [Act.put, List.setIfInBounds_toArray, List.set_cons_zero, List.set_cons_succ]
    refine anyG_takel (i := 12) (v := (.pointer (some ⟨g, 30, none⟩))) [13, 14, 15, 16] rfl (by kernel_rfl) (by kernel_rfl) (by kernel_rfl) (by kernel_rfl) (fun _ _ _ h => h) (Or.inl ⟨by rfl, fun w' hSw => ?_⟩) (unhide HS0) ?_
    · go_simp
    try simp only [Act.put, List.setIfInBounds_toArray, List.set_cons_zero, List.set_cons_succ]
    refine anyG_takel (i := 13) (v := (.slice ay k1.length cy)) [14, 15, 16] rfl (by kernel_rfl) (by kernel_rfl) (by kernel_rfl) (by kernel_rfl) (fun _ _ _ h => h) (Or.inl ⟨by rfl, fun w' hSw => ?_⟩) (unhide HS0) ?_
    · have e5 := clater (unhide HD1) hSw; go_simp
    try simp only [Act.put, List.setIfInBounds_toArray, List.set_cons_zero, List.set_cons_succ]
    refine anyG_one (i := 14) (by kernel_rfl) ?_
    refine wpOp_lit rfl (by rfl) fun K' hK' => ?_
    go_simp
    have HSa := hide (below_alloc (unhide HS0) (.cells #[.slice ax k0.length cx, .slice ay k1.length cy] 23))
    have HCD := hide (unhide HCC _ (unhide HSa) w.heap.size (two_ls w.drew (ax, cx, k0) (ay, cy, k1)))
    have HFL : Hid ((([(ax, cx, k0), (ay, cy, k1)] : List Ls).flatMap fun z => z.2.2) = R) := by show _ = _; rw [unhide HRK]; simp
    rw [unhide HFL] at HCD
    refine unhide hK' _ _ ⟨fun _ => unhide HSa, ?_⟩
    clear hK' K'
    refine anyG_one (i := 15) (by kernel_rfl) ?_
    refine wpOp_lit rfl (by rfl) fun K' hK' => ?_
    go_simp
    refine (unhide HCD).mono ?_
    rintro r w1 ⟨a1, c1, rfl, hO1, hb1⟩
    go_simp
    have HO1 := hide hO1
    have HS1 := hide (below_step (unhide HSa) hb1)
    clear hO1 hb1
    refine unhide hK' _ _ ⟨fun _ => unhide HS1, ?_⟩
    clear hK' K'
    refine anyG_one (i := 16) (by kernel_rfl) ?_
    refine wpOp_lit rfl (by rfl) fun K' hK' => ?_
    go_simp
    refine unhide hK' _ _ ⟨fun hh => absurd hh (by decide), ?_⟩
    clear hK' K'
    refine anyG_done (by kernel_rfl) ?_ _
    refine NoPanic.normal ?_
    go_wp2
    go_ret
    exact ⟨a1, c1, rfl, (unhide HO1).base_le (unhide HSa).size, unhide HS1⟩
  · have hla : x.q.args.length = 2 := (need5 o hnd).1
    have e1 : (x.q.op == 1) = false := by rw [o]; rfl
    have e12 : (x.q.op == 12) = false := by rw [o]; rfl
    have e4 : (x.q.op == 4) = false := by rw [o]; rfl
    have e5 : (x.q.op == 5) = true := by rw [o]; rfl
    obtain ⟨y0, hy0⟩ : ∃ y, ys[0]? = some y := ⟨_, List.getElem?_eq_getElem (by omega)⟩
    obtain ⟨g, ea, hs0, hk0⟩ := (unhide HYS).get hy0
    have d0 := hs0.k
    simp only [Nat.zero_mul, Nat.zero_add] at d0
    have hkl0 := (unhide HKS y0 (List.mem_of_getElem? hy0)).hi
    have HK0 := hide hk0
    have hI0 : in0 (insOf ys) = y0.k.2.2 := by unfold in0 insOf; rw [List.getElem?_map, hy0]; rfl
    rw [ea] at c15
    obtain ⟨⟨ax, cx, k0⟩, hyk⟩ : ∃ z, z = y0.k := ⟨_, rfl⟩
    rw [← hyk] at d0 hkl0 HK0 hI0
    simp only at d0 hkl0 HK0 hI0
    obtain ⟨y1, hy1⟩ : ∃ y, ys[1]? = some y := ⟨_, List.getElem?_eq_getElem (by omega)⟩
    obtain ⟨g', ea', hs1, hk1⟩ := (unhide HYS).get hy1
    rw [ea] at ea'
    injection ea' with ea'
    injection ea' with ea'
    subst ea'
    have d1 := hs1.k
    simp only [Nat.one_mul, Nat.reduceAdd] at d1
    have hkl1 := (unhide HKS y1 (List.mem_of_getElem? hy1)).hi
    have HK1 := hide hk1
    have hI1 : in1 (insOf ys) = y1.k.2.2 := by unfold in1 insOf; rw [List.getElem?_map, hy1]; rfl
    obtain ⟨⟨ay, cy, k1⟩, hyk1⟩ : ∃ z, z = y1.k := ⟨_, rfl⟩
    rw [← hyk1] at d1 hkl1 HK1 hI1
    simp only at d1 hkl1 HK1 hI1
    have hRk : R = k0 ++ k1 := by rw [hR, ← hI0, ← hI1]; unfold overK; rw [o]; rfl
    have HRK := hide hRk
    have hN0 : (0 : Int) < (x.nl : Int) := by omega
    have hN1 : (1 : Int) < (x.nl : Int) := by omega
    have HC0 := hide c15
    have HD0 := hide d0
    have HD1 := hide d1
    have HCC := hide (fun (W : World) (hW : Below w.heap.size w W) (g2 : Nat) (hg2 : ∀ (i : Nat) z, [((ax, cx, k0) : Ls), (ay, cy, k1)][i]? = some z → W.cell? ⟨g2, i, none⟩ = some (.slice z.1 z.2.2.length z.2.1)) => concat_any [(ax, cx, k0), (ay, cy, k1)] g2 2 W (by simp) (by simp; omega) fun i z hz => ⟨hg2 i z hz, by
      match i with
      | 0 => obtain rfl : (ax, cx, k0) = z := by simpa using hz
             exact (unhide HK0).later hW
      | 1 => obtain rfl : (ay, cy, k1) = z := by simpa using hz
             exact (unhide HK1).later hW
      | i + 2 => simp at hz⟩)
    clear o hla hR hI0 hI1 hs0 hs1 hk0 hk1 hy0 hy1 hyk hyk1 ea hys hks hx hnd hl hyl hRk
    go_enter Tryz.func61, Tryz.ntmps61
    go_upto_region 7 with fail
    have HS0 := hide ((Below.refl w.heap.size w).drew)
    refine wp_region_noPanic ?_
    refine wp_region_G (S := fun w' : World => Below w.heap.size w w') (k := 16) (by kernel_rfl) ?_
    refine anyG_takel (i := 0) (v := (.pointer (some ⟨b, 0, none⟩))) [1, 2, 3, 4, 5, 6, 14, 15, 16] rfl (by kernel_rfl) (by kernel_rfl) (by kernel_rfl) (by kernel_rfl) (fun _ _ _ h => h) (Or.inl ⟨by rfl, fun w' hSw => ?_⟩) (unhide HS0) ?_
    · go_simp
    try simp only [Act.put, List.setIfInBounds_toArray, List.set_cons_zero, List.set_cons_succ]
    refine anyG_takel (i := 1) (v := (.pointer (some ⟨b, 0, none⟩))) [2, 3, 4, 5, 6, 14, 15, 16] rfl (by kernel_rfl) (by kernel_rfl) (by kernel_rfl) (by kernel_rfl) (fun _ _ _ h => h) (Or.inl ⟨by rfl, fun w' hSw => ?_⟩) (unhide HS0) ?_
    · go_simp
    try simp only [Act.put, List.setIfInBounds_toArray, List.set_cons_zero, List.set_cons_succ]
    refine anyG_takel (i := 2) (v := (.pointer (some ⟨b, 15, none⟩))) [3, 4, 5, 6, 14, 15, 16] rfl (by kernel_rfl) (by kernel_rfl) (by kernel_rfl) (by kernel_rfl) (fun _ _ _ h => h) (Or.inl ⟨by rfl, fun w' hSw => ?_⟩) (unhide HS0) ?_
    · go_simp
    try simp only [Act.put, List.setIfInBounds_toArray, List.set_cons_zero, List.set_cons_succ]
    refine anyG_takel (i := 3) (v := (.slice (some ⟨g, 0, none⟩) x.nl x.nc)) [4, 5, 6, 14, 15, 16] rfl (by kernel_rfl) (by kernel_rfl) (by kernel_rfl) (by kernel_rfl) (fun _ _ _ h => h) (Or.inl ⟨by rfl, fun w' hSw => ?_⟩) (unhide HS0) ?_
    · have e5 := clater (unhide HC0) hSw; go_simp
    try simp only [Act.put, List.setIfInBounds_toArray, List.set_cons_zero, List.set_cons_succ]
    refine anyG_takel (i := 4) (v := (.pointer (some ⟨g, 0, none⟩))) [5, 6, 14, 15, 16] rfl (by kernel_rfl) (by kernel_rfl) (by kernel_rfl) (by kernel_rfl) (fun _ _ _ h => h) (Or.inl ⟨by rfl, fun w' hSw => ?_⟩) (unhide HS0) ?_
    · (try go_simp); intro h; exact absurd hN0 (by rw [h]; simp)
    try simp only [Act.put, List.setIfInBounds_toArray, List.set_cons_zero, List.set_cons_succ]
    refine anyG_takel (i := 5) (v := (.pointer (some ⟨g, 14, none⟩))) [6, 14, 15, 16] rfl (by kernel_rfl) (by kernel_rfl) (by kernel_rfl) (by kernel_rfl) (fun _ _ _ h => h) (Or.inl ⟨by rfl, fun w' hSw => ?_⟩) (unhide HS0) ?_
    · go_simp
    try simp only [Act.put, List.setIfInBounds_toArray, List.set_cons_zero, List.set_cons_succ]
    refine anyG_takel (i := 6) (v := (.slice ax k0.length cx)) [14, 15, 16] rfl (by kernel_rfl) (by kernel_rfl) (by kernel_rfl) (by kernel_rfl) (fun _ _ _ h => h) (Or.inl ⟨by rfl, fun w' hSw => ?_⟩) (unhide HS0) ?_
    · have e5 := clater (unhide HD0) hSw; go_simp
    try simp only [Act.put, List.setIfInBounds_toArray, List.set_cons_zero, List.set_cons_succ]
    refine anyG_takel (i := 7) (v := (.pointer (some ⟨b, 0, none⟩))) [8, 9, 10, 11, 12, 13, 14, 15, 16] rfl (by kernel_rfl) (by kernel_rfl) (by kernel_rfl) (by kernel_rfl) (fun _ _ _ h => h) (Or.inl ⟨by rfl, fun w' hSw => ?_⟩) (unhide HS0) ?_
    · go_simp
    try simp only [Act.put, List.setIfInBounds_toArray, List.set_cons_zero, List.set_cons_succ]
    refine anyG_takel (i := 8) (v := (.pointer (some ⟨b, 0, none⟩))) [9, 10, 11, 12, 13, 14, 15, 16] rfl (by kernel_rfl) (by kernel_rfl) (by kernel_rfl) (by kernel_rfl) (fun _ _ _ h => h) (Or.inl ⟨by rfl, fun w' hSw => ?_⟩) (unhide HS0) ?_
    · go_simp
    try simp only [Act.put, List.setIfInBounds_toArray, List.set_cons_zero, List.set_cons_succ]
    refine anyG_takel (i := 9) (v := (.pointer (some ⟨b, 15, none⟩))) [10, 11, 12, 13, 14, 15, 16] rfl (by kernel_rfl) (by kernel_rfl) (by kernel_rfl) (by kernel_rfl) (fun _ _ _ h => h) (Or.inl ⟨by rfl, fun w' hSw => ?_⟩) (unhide HS0) ?_
    · go_simp
    try simp only [Act.put, List.setIfInBounds_toArray, List.set_cons_zero, List.set_cons_succ]
    refine anyG_takel (i := 10) (v := (.slice (some ⟨g, 0, none⟩) x.nl x.nc)) [11, 12, 13, 14, 15, 16] rfl (by kernel_rfl) (by kernel_rfl) (by kernel_rfl) (by kernel_rfl) (fun _ _ _ h => h) (Or.inl ⟨by rfl, fun w' hSw => ?_⟩) (unhide HS0) ?_
    · have e5 := clater (unhide HC0) hSw; go_simp
    try simp only [Act.put, List.setIfInBounds_toArray, List.set_cons_zero, List.set_cons_succ]
    refine anyG_takel (i := 11) (v := (.pointer (some ⟨g, 16, none⟩))) [12, 13, 14, 15, 16] rfl (by kernel_rfl) (by kernel_rfl) (by kernel_rfl) (by kernel_rfl) (fun _ _ _ h => h) (Or.inl ⟨by rfl, fun w' hSw => ?_⟩) (unhide HS0) ?_
    · (try go_simp); try (intro h; omega)
    try simp only [Act.put, List.setIfInBounds_toArray, List.set_cons_zero, List.set_cons_succ]
    refine anyG_takel (i := 12) (v := (.pointer (some ⟨g, 30, none⟩))) [13, 14, 15, 16] rfl (by kernel_rfl) (by kernel_rfl) (by kernel_rfl) (by kernel_rfl) (fun _ _ _ h => h) (Or.inl ⟨by rfl, fun w' hSw => ?_⟩) (unhide HS0) ?_
    · go_simp
    try simp only [Act.put, List.setIfInBounds_toArray, List.set_cons_zero, List.set_cons_succ]
    refine anyG_takel (i := 13) (v := (.slice ay k1.length cy)) [14, 15, 16] rfl (by kernel_rfl) (by kernel_rfl) (by kernel_rfl) (by kernel_rfl) (fun _ _ _ h => h) (Or.inl ⟨by rfl, fun w' hSw => ?_⟩) (unhide HS0) ?_
    · have e5 := clater (unhide HD1) hSw; go_simp
    try simp only [Act.put, List.setIfInBounds_toArray, List.set_cons_zero, List.set_cons_succ]
    refine anyG_one (i := 14) (by kernel_rfl) ?_
    refine wpOp_lit rfl (by rfl) fun K' hK' => ?_
    go_simp
    have HSa := hide (below_alloc (unhide HS0) (.cells #[.slice ax k0.length cx, .slice ay k1.length cy] 23))
    have HCD := hide (unhide HCC _ (unhide HSa) w.heap.size (two_ls w.drew (ax, cx, k0) (ay, cy, k1)))
    have HFL : Hid ((([(ax, cx, k0), (ay, cy, k1)] : List Ls).flatMap fun z => z.2.2) = R) := by show _ = _; rw [unhide HRK]; simp
    rw [unhide HFL] at HCD
    refine unhide hK' _ _ ⟨fun _ => unhide HSa, ?_⟩
    clear hK' K'
    refine anyG_one (i := 15) (by kernel_rfl) ?_
    refine wpOp_lit rfl (by rfl) fun K' hK' => ?_
    go_simp
    refine (unhide HCD).mono ?_
    rintro r w1 ⟨a1, c1, rfl, hO1, hb1⟩
    go_simp
    have HO1 := hide hO1
    have HS1 := hide (below_step (unhide HSa) hb1)
    clear hO1 hb1
    refine unhide hK' _ _ ⟨fun _ => unhide HS1, ?_⟩
    clear hK' K'
    refine anyG_one (i := 16) (by kernel_rfl) ?_
    refine wpOp_lit rfl (by rfl) fun K' hK' => ?_
    go_simp
    refine unhide hK' _ _ ⟨fun hh => absurd hh (by decide), ?_⟩
    clear hK' K'
    refine anyG_done (by kernel_rfl) ?_ _
    refine NoPanic.normal ?_
    go_wp2
    go_ret
    exact ⟨a1, c1, rfl, (unhide HO1).base_le (unhide HSa).size, unhide HS1⟩
  · have hla : 1 ≤ x.q.args.length := by have := (need6 o hnd).1; omega
    have e1 : (x.q.op == 1) = false := by rw [o]; rfl
    have e12 : (x.q.op == 12) = false := by rw [o]; rfl
    have e4 : (x.q.op == 4) = false := by rw [o]; rfl
    have e5 : (x.q.op == 5) = false := by rw [o]; rfl
    obtain ⟨y0, hy0⟩ : ∃ y, ys[0]? = some y := ⟨_, List.getElem?_eq_getElem (by omega)⟩
    obtain ⟨g, ea, hs0, hk0⟩ := (unhide HYS).get hy0
    have d0 := hs0.k
    simp only [Nat.zero_mul, Nat.zero_add] at d0
    have hkl0 := (unhide HKS y0 (List.mem_of_getElem? hy0)).hi
    have HK0 := hide hk0
    have hI0 : in0 (insOf ys) = y0.k.2.2 := by unfold in0 insOf; rw [List.getElem?_map, hy0]; rfl
    rw [ea] at c15
    obtain ⟨⟨ax, cx, k0⟩, hyk⟩ : ∃ z, z = y0.k := ⟨_, rfl⟩
    rw [← hyk] at d0 hkl0 HK0 hI0
    simp only at d0 hkl0 HK0 hI0
    obtain rfl : R = k0 := by rw [hR]; unfold overK; rw [o]; exact hI0
    have hN0 : (0 : Int) < (x.nl : Int) := by omega
    have HC := hide (clone_any R ax cx w (by omega) (unhide HK0))
    clear o hla hR hI0 hs0 hk0 hy0 hyk ea hys hks hx hnd hl hyl
    go_enter Tryz.func61, Tryz.ntmps61
    go_wp2_with (go_at_call 82; refine (unhide HC).mono ?_; rintro r w1 ⟨a1, c1, rfl, hO1, hb1⟩)
    go_ret
    exact ⟨a1, c1, rfl, hO1, hb1⟩
  · have hla : 1 ≤ x.q.args.length := by have := need7 o hnd; omega
    have e1 : (x.q.op == 1) = false := by rw [o]; rfl
    have e12 : (x.q.op == 12) = false := by rw [o]; rfl
    have e4 : (x.q.op == 4) = false := by rw [o]; rfl
    have e5 : (x.q.op == 5) = false := by rw [o]; rfl
    obtain ⟨y0, hy0⟩ : ∃ y, ys[0]? = some y := ⟨_, List.getElem?_eq_getElem (by omega)⟩
    obtain ⟨g, ea, hs0, hk0⟩ := (unhide HYS).get hy0
    have d0 := hs0.k
    simp only [Nat.zero_mul, Nat.zero_add] at d0
    have hkl0 := (unhide HKS y0 (List.mem_of_getElem? hy0)).hi
    have HK0 := hide hk0
    have hI0 : in0 (insOf ys) = y0.k.2.2 := by unfold in0 insOf; rw [List.getElem?_map, hy0]; rfl
    rw [ea] at c15
    obtain ⟨⟨ax, cx, k0⟩, hyk⟩ : ∃ z, z = y0.k := ⟨_, rfl⟩
    rw [← hyk] at d0 hkl0 HK0 hI0
    simp only at d0 hkl0 HK0 hI0
    obtain rfl : R = k0 := by rw [hR]; unfold overK; rw [o]; exact hI0
    have hN0 : (0 : Int) < (x.nl : Int) := by omega
    have HC := hide (clone_any R ax cx w (by omega) (unhide HK0))
    clear o hla hR hI0 hs0 hk0 hy0 hyk ea hys hks hx hnd hl hyl
    go_enter Tryz.func61, Tryz.ntmps61
    go_wp2_with (go_at_call 82; refine (unhide HC).mono ?_; rintro r w1 ⟨a1, c1, rfl, hO1, hb1⟩)
    go_ret
    exact ⟨a1, c1, rfl, hO1, hb1⟩
  · have hla : 1 ≤ x.q.args.length := by have := need8 o hnd; omega
    have e1 : (x.q.op == 1) = false := by rw [o]; rfl
    have e12 : (x.q.op == 12) = false := by rw [o]; rfl
    have e4 : (x.q.op == 4) = false := by rw [o]; rfl
    have e5 : (x.q.op == 5) = false := by rw [o]; rfl
    obtain ⟨y0, hy0⟩ : ∃ y, ys[0]? = some y := ⟨_, List.getElem?_eq_getElem (by omega)⟩
    obtain ⟨g, ea, hs0, hk0⟩ := (unhide HYS).get hy0
    have d0 := hs0.k
    simp only [Nat.zero_mul, Nat.zero_add] at d0
    have hkl0 := (unhide HKS y0 (List.mem_of_getElem? hy0)).hi
    have HK0 := hide hk0
    have hI0 : in0 (insOf ys) = y0.k.2.2 := by unfold in0 insOf; rw [List.getElem?_map, hy0]; rfl
    rw [ea] at c15
    obtain ⟨⟨ax, cx, k0⟩, hyk⟩ : ∃ z, z = y0.k := ⟨_, rfl⟩
    rw [← hyk] at d0 hkl0 HK0 hI0
    simp only at d0 hkl0 HK0 hI0
    obtain rfl : R = k0 := by rw [hR]; unfold overK; rw [o]; exact hI0
    have hN0 : (0 : Int) < (x.nl : Int) := by omega
    have HC := hide (clone_any R ax cx w (by omega) (unhide HK0))
    clear o hla hR hI0 hs0 hk0 hy0 hyk ea hys hks hx hnd hl hyl
    go_enter Tryz.func61, Tryz.ntmps61
    go_wp2_with (go_at_call 82; refine (unhide HC).mono ?_; rintro r w1 ⟨a1, c1, rfl, hO1, hb1⟩)
    go_ret
    exact ⟨a1, c1, rfl, hO1, hb1⟩
  · have hla : 1 ≤ x.q.args.length := by have := need9 o hnd; omega
    have e1 : (x.q.op == 1) = false := by rw [o]; rfl
    have e12 : (x.q.op == 12) = false := by rw [o]; rfl
    have e4 : (x.q.op == 4) = false := by rw [o]; rfl
    have e5 : (x.q.op == 5) = false := by rw [o]; rfl
    obtain ⟨y0, hy0⟩ : ∃ y, ys[0]? = some y := ⟨_, List.getElem?_eq_getElem (by omega)⟩
    obtain ⟨g, ea, hs0, hk0⟩ := (unhide HYS).get hy0
    have d0 := hs0.k
    simp only [Nat.zero_mul, Nat.zero_add] at d0
    have hkl0 := (unhide HKS y0 (List.mem_of_getElem? hy0)).hi
    have HK0 := hide hk0
    have hI0 : in0 (insOf ys) = y0.k.2.2 := by unfold in0 insOf; rw [List.getElem?_map, hy0]; rfl
    rw [ea] at c15
    obtain ⟨⟨ax, cx, k0⟩, hyk⟩ : ∃ z, z = y0.k := ⟨_, rfl⟩
    rw [← hyk] at d0 hkl0 HK0 hI0
    simp only at d0 hkl0 HK0 hI0
    obtain rfl : R = k0 := by rw [hR]; unfold overK; rw [o]; exact hI0
    have hN0 : (0 : Int) < (x.nl : Int) := by omega
    have HC := hide (clone_any R ax cx w (by omega) (unhide HK0))
    clear o hla hR hI0 hs0 hk0 hy0 hyk ea hys hks hx hnd hl hyl
    go_enter Tryz.func61, Tryz.ntmps61
    go_wp2_with (go_at_call 82; refine (unhide HC).mono ?_; rintro r w1 ⟨a1, c1, rfl, hO1, hb1⟩)
    go_ret
    exact ⟨a1, c1, rfl, hO1, hb1⟩
  · have hla : 1 ≤ x.q.args.length := by have := (need10 o hnd).1; omega
    have e1 : (x.q.op == 1) = false := by rw [o]; rfl
    have e12 : (x.q.op == 12) = false := by rw [o]; rfl
    have e4 : (x.q.op == 4) = false := by rw [o]; rfl
    have e5 : (x.q.op == 5) = false := by rw [o]; rfl
    obtain ⟨y0, hy0⟩ : ∃ y, ys[0]? = some y := ⟨_, List.getElem?_eq_getElem (by omega)⟩
    obtain ⟨g, ea, hs0, hk0⟩ := (unhide HYS).get hy0
    have d0 := hs0.k
    simp only [Nat.zero_mul, Nat.zero_add] at d0
    have hkl0 := (unhide HKS y0 (List.mem_of_getElem? hy0)).hi
    have HK0 := hide hk0
    have hI0 : in0 (insOf ys) = y0.k.2.2 := by unfold in0 insOf; rw [List.getElem?_map, hy0]; rfl
    rw [ea] at c15
    obtain ⟨⟨ax, cx, k0⟩, hyk⟩ : ∃ z, z = y0.k := ⟨_, rfl⟩
    rw [← hyk] at d0 hkl0 HK0 hI0
    simp only at d0 hkl0 HK0 hI0
    obtain rfl : R = k0 := by rw [hR]; unfold overK; rw [o]; exact hI0
    have hN0 : (0 : Int) < (x.nl : Int) := by omega
    have HC := hide (clone_any R ax cx w (by omega) (unhide HK0))
    clear o hla hR hI0 hs0 hk0 hy0 hyk ea hys hks hx hnd hl hyl
    go_enter Tryz.func61, Tryz.ntmps61
    go_wp2_with (go_at_call 82; refine (unhide HC).mono ?_; rintro r w1 ⟨a1, c1, rfl, hO1, hb1⟩)
    go_ret
    exact ⟨a1, c1, rfl, hO1, hb1⟩
  · have hla : 1 ≤ x.q.args.length := by have := need11 o hnd; omega
    have e1 : (x.q.op == 1) = false := by rw [o]; rfl
    have e12 : (x.q.op == 12) = false := by rw [o]; rfl
    have e4 : (x.q.op == 4) = false := by rw [o]; rfl
    have e5 : (x.q.op == 5) = false := by rw [o]; rfl
    obtain ⟨y0, hy0⟩ : ∃ y, ys[0]? = some y := ⟨_, List.getElem?_eq_getElem (by omega)⟩
    obtain ⟨g, ea, hs0, hk0⟩ := (unhide HYS).get hy0
    have d0 := hs0.k
    simp only [Nat.zero_mul, Nat.zero_add] at d0
    have hkl0 := (unhide HKS y0 (List.mem_of_getElem? hy0)).hi
    have HK0 := hide hk0
    have hI0 : in0 (insOf ys) = y0.k.2.2 := by unfold in0 insOf; rw [List.getElem?_map, hy0]; rfl
    rw [ea] at c15
    obtain ⟨⟨ax, cx, k0⟩, hyk⟩ : ∃ z, z = y0.k := ⟨_, rfl⟩
    rw [← hyk] at d0 hkl0 HK0 hI0
    simp only at d0 hkl0 HK0 hI0
    obtain rfl : R = k0 := by rw [hR]; unfold overK; rw [o]; exact hI0
    have hN0 : (0 : Int) < (x.nl : Int) := by omega
    have HC := hide (clone_any R ax cx w (by omega) (unhide HK0))
    clear o hla hR hI0 hs0 hk0 hy0 hyk ea hys hks hx hnd hl hyl
    go_enter Tryz.func61, Tryz.ntmps61
    go_wp2_with (go_at_call 82; refine (unhide HC).mono ?_; rintro r w1 ⟨a1, c1, rfl, hO1, hb1⟩)
    go_ret
    exact ⟨a1, c1, rfl, hO1, hb1⟩
  · have e1 : (x.q.op == 1) = false := by rw [o]; rfl
    have e12 : (x.q.op == 12) = true := by rw [o]; rfl
    obtain rfl : R = [] := by rw [hR]; unfold overK; rw [o]; rfl
    clear o hR hys hks hx hnd hl hyl
    go_enter Tryz.func61, Tryz.ntmps61
    go_wp2
    go_ret
    exact ⟨none, 0, rfl, own_nil _ _, Below.refl _ _⟩
end Go.Proofs.YtcpndojkfngioaaGreat

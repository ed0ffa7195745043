import Derived.Test.YtcpndojkfngioaaGreatPlM
import Derived.Lib.QuietBelow
import Derived.Test.YtcpndojkfngioaaGreatPlC
import Derived.Test.YtcpndojkfngioaaGreatRmK
set_option linter.unusedSimpArgs false
set_option linter.unusedVariables false
namespace Go.Proofs.YtcpndojkfngioaaGreat
open Go.RowKit Go.Sort

theorem pick_lt {α : Type} {n : Nat} {p : Nat → α → Prop} (h : ∀ i, i < n → ∃ a, p i a) : ∃ l : List α, l.length = n ∧ ∀ i a, l[i]? = some a → p i a := by
  induction n with
  | zero => exact ⟨[], rfl, fun i a hi => by simp at hi⟩
  | succ n ih =>
    obtain ⟨l, hl, hp⟩ := ih fun i hi => h i (by omega)
    obtain ⟨a, ha⟩ := h n (by omega)
    refine ⟨l ++ [a], by simp [hl], fun i b hb => ?_⟩
    by_cases hi : i < n
    · rw [List.getElem?_append_left (by omega)] at hb
      exact hp i b hb
    · rw [List.getElem?_append_right (by omega)] at hb
      have : i - l.length = 0 := by
        by_cases h0 : i - l.length = 0
        · exact h0
        · obtain ⟨q, hq⟩ : ∃ q, i - l.length = q + 1 := ⟨i - l.length - 1, by omega⟩
          rw [hq] at hb; simp at hb
      rw [this] at hb
      simp at hb
      subst hb
      have : i = n := by omega
      subst this
      exact ha
/-- A list of expressions, as its values. -/
theorem exVals {w : World} {a : Option Addr} {l : List Ex} (h : Ex.all w a l) : ∃ vs : List Value, vs.length = l.length ∧ LstE w a vs ∧ ∀ (i : Nat) x v, l[i]? = some x → vs[i]? = some v → ∃ a' c', v = x.val a' c' ∧ Ex.all w a' x.args := by
  by_cases h0 : l = []
  · subst h0
    exact ⟨[], rfl, .inl rfl, fun i x v hx => by simp at hx⟩
  obtain ⟨e0, he0⟩ : ∃ e, l[0]? = some e := by cases l with | nil => exact absurd rfl h0 | cons e l => exact ⟨e, rfl⟩
  obtain ⟨b, off, ha, _⟩ := Ex.all_get h he0
  obtain ⟨vs, hl, hp⟩ := pick_lt (n := l.length) (p := fun i (v : Value) => ∃ x a' c', l[i]? = some x ∧ v = x.val a' c' ∧ Ex.all w a' x.args ∧ ∀ W, Below w.heap.size w W → (Instr.loadAt 74 (.pointer (some ⟨b, off + i * 6, none⟩))).run Tryz.prog W = .ok v W) fun i hi => by
    obtain ⟨x, hx⟩ : ∃ x, l[i]? = some x := ⟨_, List.getElem?_eq_getElem hi⟩
    obtain ⟨b', off', e, hat⟩ := Ex.all_get h hx
    rw [ha] at e
    simp only [Option.some.injEq, Addr.mk.injEq, and_true] at e
    obtain ⟨rfl, rfl⟩ := e
    obtain ⟨a', c', ⟨d0, d1, d2, d3, d4, d5⟩, hal⟩ := Ex.at_open hat
    refine ⟨x.val a' c', x, a', c', hx, rfl, hal, fun W hW => ?_⟩
    replace d0 := clater d0 hW; replace d1 := clater d1 hW; replace d2 := clater d2 hW; replace d3 := clater d3 hW; replace d4 := clater d4 hW; replace d5 := clater d5 hW
    unfold Ex.val
    go_simp
  refine ⟨vs, hl, .inr ⟨b, off, ha, fun i v hv W hW => ?_⟩, fun i x v hx hv => ?_⟩
  · obtain ⟨x, a', c', _, _, _, hld⟩ := hp i v hv
    exact hld W hW
  · obtain ⟨y, a', c', hy, e, hal, _⟩ := hp i v hv
    rw [hx] at hy
    injection hy with hy
    subst hy
    exact ⟨a', c', e, hal⟩
/-- ContainsFunc of expressions, by a function that is a test of each of them. -/
theorem containsE_by (l : List Ex) (p : Ex → Bool) (n : Nat) (ent : ∀ args w, (callFunc n args).run Tryz.prog w = .ok (.enter n args) w) (a : Option Addr) (c : Nat) (w : World) (hl : l.length ≤ 140737488355328) (ha : Ex.all w a l)
    (hp : ∀ (i : Nat) x, l[i]? = some x → ∀ a' c' W, Below w.heap.size w W → Ex.all W a' x.args → Calls Tryz.prog n #[x.val a' c'] W fun r w' => r = .returned (.bool (p x)) ∧ Below W.heap.size W w') :
    Calls Tryz.prog 44 #[.slice a l.length c, .func (.func n) #[] #[]] w fun r w' => r = .returned (.bool (l.any p)) ∧ Below w.heap.size w w' := by
  obtain ⟨vs, hvl, hls, hv⟩ := exVals ha
  have h := containsE vs (l.map p) (by rw [List.length_map, hvl]) a c (.func (.func n) #[] #[]) w (by omega) hls ⟨n, #[], rfl, ent, fun i v bb W gv gb hW => by
    rw [List.getElem?_map] at gb
    obtain ⟨x, hx, rfl⟩ := Option.map_eq_some_iff.1 gb
    obtain ⟨a', c', rfl, hal⟩ := hv i x v hx gv
    exact hp i x hx a' c' W hW (Ex.all_later _ hal hW)⟩
  rw [hvl, List.any_map] at h
  exact h
/-- A list of plans, as its values. -/
theorem plVals {w : World} {a : Option Addr} {l : List Pl} (h : Pl.all w a l) : ∃ vs : List Value, vs.length = l.length ∧ LstP w a vs ∧ ∀ (i : Nat) x v, l[i]? = some x → vs[i]? = some v → ∃ m, v = x.val m ∧ PlM w x m := by
  by_cases h0 : l = []
  · subst h0
    exact ⟨[], rfl, .inl rfl, fun i x v hx => by simp at hx⟩
  obtain ⟨e0, he0⟩ : ∃ e, l[0]? = some e := by cases l with | nil => exact absurd rfl h0 | cons e l => exact ⟨e, rfl⟩
  obtain ⟨b, off, ha, _⟩ := Pl.all_get h he0
  obtain ⟨vs, hl, hp⟩ := pick_lt (n := l.length) (p := fun i (v : Value) => ∃ x m, l[i]? = some x ∧ v = x.val m ∧ PlM w x m ∧ ∀ W, Below w.heap.size w W → (Instr.loadAt 28 (.pointer (some ⟨b, off + i * 11, none⟩))).run Tryz.prog W = .ok v W) fun i hi => by
    obtain ⟨x, hx⟩ : ∃ x, l[i]? = some x := ⟨_, List.getElem?_eq_getElem hi⟩
    obtain ⟨b', off', e, hat⟩ := Pl.all_get h hx
    rw [ha] at e
    simp only [Option.some.injEq, Addr.mk.injEq, and_true] at e
    obtain ⟨rfl, rfl⟩ := e
    obtain ⟨m, hel, ho, hal⟩ := Pl.at_open hat
    exact ⟨x.val m, x, m, hx, rfl, ⟨ho, hal⟩, fun W hW => (hel.later hW).load⟩
  refine ⟨vs, hl, .inr ⟨b, off, ha, fun i v hv W hW => ?_⟩, fun i x v hx hv => ?_⟩
  · obtain ⟨x, m, _, _, _, hld⟩ := hp i v hv
    exact hld W hW
  · obtain ⟨y, m, hy, e, hal, _⟩ := hp i v hv
    rw [hx] at hy
    injection hy with hy
    subst hy
    exact ⟨m, e, hal⟩
/-- ContainsFunc of plans, likewise. -/
theorem containsP_by (l : List Pl) (p : Pl → Bool) (n : Nat) (ent : ∀ args w, (callFunc n args).run Tryz.prog w = .ok (.enter n args) w) (a : Option Addr) (c : Nat) (w : World) (hl : l.length ≤ 140737488355328) (ha : Pl.all w a l)
    (hp : ∀ (i : Nat) x, l[i]? = some x → ∀ m W, Below w.heap.size w W → PlM W x m → Calls Tryz.prog n #[x.val m] W fun r w' => r = .returned (.bool (p x)) ∧ Below W.heap.size W w') :
    Calls Tryz.prog 46 #[.slice a l.length c, .func (.func n) #[] #[]] w fun r w' => r = .returned (.bool (l.any p)) ∧ Below w.heap.size w w' := by
  obtain ⟨vs, hvl, hls, hv⟩ := plVals ha
  have h := containsP vs (l.map p) (by rw [List.length_map, hvl]) a c (.func (.func n) #[] #[]) w (by omega) hls ⟨n, #[], rfl, ent, fun i v bb W gv gb hW => by
    rw [List.getElem?_map] at gb
    obtain ⟨x, hx, rfl⟩ := Option.map_eq_some_iff.1 gb
    obtain ⟨m, rfl, hal⟩ := hv i x v hx gv
    exact hp i x hx m W hW (hal.later hW)⟩
  rw [hvl, List.any_map] at h
  exact h
def samV (x y : Val) : Bool := decide (x.k = y.k) && (decide (x.n = y.n) && decide (x.s = y.s))
theorem samV_eq {x y : Val} (h : samV x y = true) : x = y := by
  unfold samV at h
  simp only [Bool.and_eq_true, decide_eq_true_eq] at h
  cases x; cases y
  simp only at h
  obtain ⟨rfl, rfl, rfl⟩ := h
  rfl
theorem samV_self (x : Val) : samV x x = true := by unfold samV; simp
theorem neqV (x y : Val) (w : World) : (binOp .neq 65 (.agg #[.int .i64 x.k, .int .i64 x.n, .string x.s]) (.agg #[.int .i64 y.k, .int .i64 y.n, .string y.s])).run Tryz.prog w = .ok (.bool (!samV x y)) w := by
  have u2 := Tryz.underlying2
  have u3 := Tryz.underlying3
  have u9 := Tryz.underlying9
  have a2 := Tryz.isAgg2
  have a3 := Tryz.isAgg3
  have a9 := Tryz.isAgg9
  have z2 := Tryz.sizeOf2
  have z3 := Tryz.sizeOf3
  have z9 := Tryz.sizeOf9
  have hS : Tryz.prog.underlying 65 = some (.struct (Tryz.prog.fieldsOf 65)) := by kernel_rfl
  have hp : Tryz.prog.stoodInHeld 65 = false := by kernel_rfl
  unfold samV
  rw [run_neq_struct, show (10000 : Nat) = 9999 + 1 from rfl, run_equalIn_agg w 9999 65 _ _ hS hp]
  simp only [Program.fieldsOf, Tryz.underlying65]
  go_simp
  have hb : ∀ a b : ByteArray, a.toList = b.toList ↔ a = b := fun a b => by
    rw [ByteArray.toList_eq, ByteArray.toList_eq]
    exact ⟨fun h => ByteArray.ext (Array.toList_inj.1 h), fun h => by rw [h]⟩
  by_cases h1 : x.k = y.k <;> by_cases h2 : x.n = y.n <;> by_cases h3 : x.s = y.s <;> simp [h1, h2, h3, hb]
end Go.Proofs.YtcpndojkfngioaaGreat
set_option linter.unusedSimpArgs false
set_option linter.unusedVariables false
namespace Go.Proofs.YtcpndojkfngioaaGreat
open Go.RowKit Go.Sort

mutual
/-- Something that an expression does not need. -/
def needlE : Ex → Bool
  | .mk op n v l => (decide (¬ op = 1) && decide (¬ n = 0)) || (decide (¬ op = 2) && !samV v .null) || !samV v (cleanV v) || needlL l
def needlL : List Ex → Bool
  | [] => false
  | e :: l => needlE e || needlL l
end
theorem needlL_any : ∀ l : List Ex, needlL l = l.any needlE
  | [] => by rw [needlL]; rfl
  | e :: l => by rw [needlL, List.any_cons, needlL_any l]
theorem needlE_eq (e : Ex) : needlE e = ((decide (¬ e.op = 1) && decide (¬ e.n = 0)) || (decide (¬ e.op = 2) && !samV e.v .null) || !samV e.v (cleanV e.v) || e.args.any needlE) := by
  cases e; rw [needlE, needlL_any]; rfl
set_option maxHeartbeats 4000000 in
set_option maxRecDepth 100000 in
theorem needless_step (e : Ex) (hf : e.fin) (a : Option Addr) (c : Nat) (w : World) (ha : Ex.all w a e.args)
    (IH : ∀ (i : Nat) x, e.args[i]? = some x → ∀ a' c' W, Ex.all W a' x.args → Calls Tryz.prog 75 #[x.val a' c'] W fun r w' => r = .returned (.bool (needlE x)) ∧ Below W.heap.size W w') :
    Calls Tryz.prog 75 #[e.val a c] w fun r w' => r = .returned (.bool (needlE e)) ∧ Below w.heap.size w w' := by
  obtain ⟨⟨hl, _, _, _⟩, _⟩ := Ex.fin_open hf
  have hb0 := below_alloc (Below.refl _ w) (e.box a c)
  have H6 := Six.new w e a c
  unfold Ex.box at hb0 H6
  obtain ⟨R, hR⟩ : ∃ R, R = needlE e := ⟨_, rfl⟩
  rw [← hR]
  rw [needlE_eq] at hR
  have HC : Hid (∀ W, Below w.heap.size w W → Calls Tryz.prog 44 #[.slice a e.args.length c, .func (.func 75) #[] #[]] W fun r w' => r = .returned (.bool (e.args.any needlE)) ∧ Below W.heap.size W w') := fun W hW =>
    containsE_by e.args needlE 75 (fun args w => by kernel_rfl) a c W hl (Ex.all_later _ ha hW) fun i x hx a' c' W' _ hal => IH i x hx a' c' W' hal
  have HCL := hide (clean_any e.v)
  have HN0 := hide (neqV e.v .null)
  have HN1 := hide (neqV e.v (cleanV e.v))
  rw [Ex.val_open]
  rw [Val.open_] at HCL
  generalize e.args.any needlE = ar at *
  clear IH ha hf
  obtain ⟨wa, hwa⟩ : ∃ wa, wa = w.alloc (.cells #[.int .i64 e.op, .int .i64 e.n, .int .i64 e.v.k, .int .i64 e.v.n, .string e.v.s, .slice a e.args.length c] 74) := ⟨_, rfl⟩
  rw [← hwa] at hb0 H6
  have HB := hide hb0
  have HWA := hide hwa
  obtain ⟨d0, d1, d2, d3, d4, d5⟩ := H6
  have k0 := cell_regrown d0
  have k1 := cell_regrown d1
  have k2 := cell_regrown d2
  have k3 := cell_regrown d3
  have k4 := cell_regrown d4
  have k5 := cell_regrown d5
  have HR := hide hR
  clear hb0 hwa d0 d1 d2 d3 d4 d5 hR
  by_cases o1 : e.op = 1
  · have p1 : (e.op != 1) = false := by rw [o1]; rfl
    have p2 : (e.op != 2) = true := by rw [o1]; rfl
    cases hz : samV e.v .null
    · rw [hz] at HN0
      have n0 : ∀ W, (binOp .neq 65 (.agg #[.int .i64 e.v.k, .int .i64 e.v.n, .string e.v.s]) (.agg #[.int .i64 0, .int .i64 0, .string ⟨#[]⟩])).run Tryz.prog W = .ok (.bool true) W := fun W => unhide HN0 W
      obtain rfl : R = true := by rw [unhide HR, o1, hz]; rfl
      clear HR hz o1 HN0
      go_enter Tryz.func75, Tryz.ntmps75
      go_upto_region 1 with fail
      rw [← unhide HWA]
      refine wp_region_quiet_below (by kernel_rfl) (by kernel_rfl) ?_
      repeat (go_big_quiet_step (first
        | (go_at_call 69; exact Calls.regrown_of (unhide HCL _))
        | (go_at_call 44; exact Calls.regrown_of (unhide HC _ (below_step (unhide HB) (below_regrown _ _ _))))))
      refine wpQuiet_nil ?_
      intro w2 hw2
      have hB2 : Below wa.heap.size wa w2 := by obtain ⟨p, rfl⟩ := hw2; exact below_regrown _ _ _
      clear hw2
      go_wp2
      go_ret
      exact ⟨rfl, below_step (unhide HB) hB2⟩
    · have hv := samV_eq hz
      have hcv : cleanV e.v = e.v := by rw [hv]; rfl
      rw [hcv] at HCL HN1
      rw [samV_self] at HN1
      rw [hz] at HN0
      have n0 : ∀ W, (binOp .neq 65 (.agg #[.int .i64 e.v.k, .int .i64 e.v.n, .string e.v.s]) (.agg #[.int .i64 0, .int .i64 0, .string ⟨#[]⟩])).run Tryz.prog W = .ok (.bool false) W := fun W => unhide HN0 W
      have n1 : ∀ W, (binOp .neq 65 (.agg #[.int .i64 e.v.k, .int .i64 e.v.n, .string e.v.s]) (.agg #[.int .i64 e.v.k, .int .i64 e.v.n, .string e.v.s])).run Tryz.prog W = .ok (.bool false) W := fun W => unhide HN1 W
      obtain rfl : R = ar := by rw [unhide HR, o1, hz, hcv, samV_self]; rfl
      rw [Val.open_] at HCL
      clear HR hz o1 HN0 HN1 hv hcv
      go_enter Tryz.func75, Tryz.ntmps75
      go_upto_region 1 with fail
      rw [← unhide HWA]
      refine wp_region_quiet_below (by kernel_rfl) (by kernel_rfl) ?_
      repeat (go_big_quiet_step (first
        | (go_at_call 69; exact Calls.regrown_of (unhide HCL _))
        | (go_at_call 44; exact Calls.regrown_of (unhide HC _ (below_step (unhide HB) (below_regrown _ _ _))))))
      refine wpQuiet_nil ?_
      intro w2 hw2
      have hB2 : Below wa.heap.size wa w2 := by obtain ⟨p, rfl⟩ := hw2; exact below_regrown _ _ _
      clear hw2
      go_wp2
      go_ret
      exact ⟨rfl, below_step (unhide HB) hB2⟩
  by_cases o2 : e.op = 2
  · have p1 : (e.op != 1) = true := by rw [o2]; rfl
    have p2 : (e.op != 2) = false := by rw [o2]; rfl
    by_cases hn : e.n = 0
    · have p3 : (e.n != 0) = false := by rw [hn]; rfl
      cases hc : samV e.v (cleanV e.v)
      · rw [hc] at HN1
        have n1 : ∀ W, (binOp .neq 65 (.agg #[.int .i64 e.v.k, .int .i64 e.v.n, .string e.v.s]) (.agg #[.int .i64 (cleanV e.v).k, .int .i64 (cleanV e.v).n, .string (cleanV e.v).s])).run Tryz.prog W = .ok (.bool true) W := fun W => unhide HN1 W
        obtain rfl : R = true := by rw [unhide HR, o2, hn, hc]; rfl
        rw [Val.open_] at HCL
        generalize cleanV e.v = cv at *
        clear HR hc o1 o2 HN0 HN1 hn
        go_enter Tryz.func75, Tryz.ntmps75
        go_upto_region 1 with fail
        rw [← unhide HWA]
        refine wp_region_quiet_below (by kernel_rfl) (by kernel_rfl) ?_
        repeat (go_big_quiet_step (first
          | (go_at_call 69; exact Calls.regrown_of (unhide HCL _))
          | (go_at_call 44; exact Calls.regrown_of (unhide HC _ (below_step (unhide HB) (below_regrown _ _ _))))))
        refine wpQuiet_nil ?_
        intro w2 hw2
        have hB2 : Below wa.heap.size wa w2 := by obtain ⟨p, rfl⟩ := hw2; exact below_regrown _ _ _
        clear hw2
        go_wp2
        go_ret
        exact ⟨rfl, below_step (unhide HB) hB2⟩
      · have hcv := (samV_eq hc).symm
        rw [hcv] at HCL HN1
        rw [samV_self] at HN1
        have n1 : ∀ W, (binOp .neq 65 (.agg #[.int .i64 e.v.k, .int .i64 e.v.n, .string e.v.s]) (.agg #[.int .i64 e.v.k, .int .i64 e.v.n, .string e.v.s])).run Tryz.prog W = .ok (.bool false) W := fun W => unhide HN1 W
        obtain rfl : R = ar := by rw [unhide HR, o2, hn, hcv, samV_self]; rfl
        rw [Val.open_] at HCL
        clear HR hc o1 o2 HN0 HN1 hn hcv
        go_enter Tryz.func75, Tryz.ntmps75
        go_upto_region 1 with fail
        rw [← unhide HWA]
        refine wp_region_quiet_below (by kernel_rfl) (by kernel_rfl) ?_
        repeat (go_big_quiet_step (first
          | (go_at_call 69; exact Calls.regrown_of (unhide HCL _))
          | (go_at_call 44; exact Calls.regrown_of (unhide HC _ (below_step (unhide HB) (below_regrown _ _ _))))))
        refine wpQuiet_nil ?_
        intro w2 hw2
        have hB2 : Below wa.heap.size wa w2 := by obtain ⟨p, rfl⟩ := hw2; exact below_regrown _ _ _
        clear hw2
        go_wp2
        go_ret
        exact ⟨rfl, below_step (unhide HB) hB2⟩
    · have p3 : (e.n != 0) = true := by simpa using hn
      obtain rfl : R = true := by rw [unhide HR, o2]; simp [hn]
      clear HR o1 o2 HN0 HN1 hn
      go_enter Tryz.func75, Tryz.ntmps75
      go_upto_region 1 with fail
      rw [← unhide HWA]
      refine wp_region_quiet_below (by kernel_rfl) (by kernel_rfl) ?_
      repeat (go_big_quiet_step (first
        | (go_at_call 69; exact Calls.regrown_of (unhide HCL _))
        | (go_at_call 44; exact Calls.regrown_of (unhide HC _ (below_step (unhide HB) (below_regrown _ _ _))))))
      refine wpQuiet_nil ?_
      intro w2 hw2
      have hB2 : Below wa.heap.size wa w2 := by obtain ⟨p, rfl⟩ := hw2; exact below_regrown _ _ _
      clear hw2
      go_wp2
      go_ret
      exact ⟨rfl, below_step (unhide HB) hB2⟩
  · have p1 : (e.op != 1) = true := by simpa using o1
    have p2 : (e.op != 2) = true := by simpa using o2
    by_cases hn : e.n = 0
    · have p3 : (e.n != 0) = false := by rw [hn]; rfl
      cases hz : samV e.v .null
      · rw [hz] at HN0
        have n0 : ∀ W, (binOp .neq 65 (.agg #[.int .i64 e.v.k, .int .i64 e.v.n, .string e.v.s]) (.agg #[.int .i64 0, .int .i64 0, .string ⟨#[]⟩])).run Tryz.prog W = .ok (.bool true) W := fun W => unhide HN0 W
        obtain rfl : R = true := by rw [unhide HR, hz]; simp [o2]
        clear HR hz o1 o2 HN0 hn
        go_enter Tryz.func75, Tryz.ntmps75
        go_upto_region 1 with fail
        rw [← unhide HWA]
        refine wp_region_quiet_below (by kernel_rfl) (by kernel_rfl) ?_
        repeat (go_big_quiet_step (first
          | (go_at_call 69; exact Calls.regrown_of (unhide HCL _))
          | (go_at_call 44; exact Calls.regrown_of (unhide HC _ (below_step (unhide HB) (below_regrown _ _ _))))))
        refine wpQuiet_nil ?_
        intro w2 hw2
        have hB2 : Below wa.heap.size wa w2 := by obtain ⟨p, rfl⟩ := hw2; exact below_regrown _ _ _
        clear hw2
        go_wp2
        go_ret
        exact ⟨rfl, below_step (unhide HB) hB2⟩
      · have hv := samV_eq hz
        have hcv : cleanV e.v = e.v := by rw [hv]; rfl
        rw [hcv] at HCL HN1
        rw [samV_self] at HN1
        rw [hz] at HN0
        have n0 : ∀ W, (binOp .neq 65 (.agg #[.int .i64 e.v.k, .int .i64 e.v.n, .string e.v.s]) (.agg #[.int .i64 0, .int .i64 0, .string ⟨#[]⟩])).run Tryz.prog W = .ok (.bool false) W := fun W => unhide HN0 W
        have n1 : ∀ W, (binOp .neq 65 (.agg #[.int .i64 e.v.k, .int .i64 e.v.n, .string e.v.s]) (.agg #[.int .i64 e.v.k, .int .i64 e.v.n, .string e.v.s])).run Tryz.prog W = .ok (.bool false) W := fun W => unhide HN1 W
        obtain rfl : R = ar := by rw [unhide HR, hz, hcv, samV_self, hn]; simp
        rw [Val.open_] at HCL
        clear HR hz o1 o2 HN0 HN1 hv hcv hn
        go_enter Tryz.func75, Tryz.ntmps75
        go_upto_region 1 with fail
        rw [← unhide HWA]
        refine wp_region_quiet_below (by kernel_rfl) (by kernel_rfl) ?_
        repeat (go_big_quiet_step (first
          | (go_at_call 69; exact Calls.regrown_of (unhide HCL _))
          | (go_at_call 44; exact Calls.regrown_of (unhide HC _ (below_step (unhide HB) (below_regrown _ _ _))))))
        refine wpQuiet_nil ?_
        intro w2 hw2
        have hB2 : Below wa.heap.size wa w2 := by obtain ⟨p, rfl⟩ := hw2; exact below_regrown _ _ _
        clear hw2
        go_wp2
        go_ret
        exact ⟨rfl, below_step (unhide HB) hB2⟩
    · have p3 : (e.n != 0) = true := by simpa using hn
      obtain rfl : R = true := by rw [unhide HR]; simp [hn, o1]
      clear HR o1 o2 HN0 HN1 hn
      go_enter Tryz.func75, Tryz.ntmps75
      go_upto_region 1 with fail
      rw [← unhide HWA]
      refine wp_region_quiet_below (by kernel_rfl) (by kernel_rfl) ?_
      repeat (go_big_quiet_step (first
        | (go_at_call 69; exact Calls.regrown_of (unhide HCL _))
        | (go_at_call 44; exact Calls.regrown_of (unhide HC _ (below_step (unhide HB) (below_regrown _ _ _))))))
      refine wpQuiet_nil ?_
      intro w2 hw2
      have hB2 : Below wa.heap.size wa w2 := by obtain ⟨p, rfl⟩ := hw2; exact below_regrown _ _ _
      clear hw2
      go_wp2
      go_ret
      exact ⟨rfl, below_step (unhide HB) hB2⟩
theorem needless_all : ∀ (k : Nat) (e : Ex), e.size ≤ k → e.fin → ∀ (a : Option Addr) (c : Nat) (w : World), Ex.all w a e.args → Calls Tryz.prog 75 #[e.val a c] w fun r w' => r = .returned (.bool (needlE e)) ∧ Below w.heap.size w w'
  | 0, e, hs, _, _, _, _, _ => by rw [Ex.size_mk] at hs; omega
  | k + 1, e, hs, hf, a, c, w, ha => needless_step e hf a c w ha fun i x hx a' c' W hW => needless_all k x (by have := Ex.size_arg hx; omega) (Ex.fin_arg hf hx) a' c' W hW
end Go.Proofs.YtcpndojkfngioaaGreat
set_option linter.unusedSimpArgs false
set_option linter.unusedVariables false
namespace Go.Proofs.YtcpndojkfngioaaGreat
open Go.RowKit Go.Sort

theorem needless_any (e : Ex) (hf : e.fin) (a : Option Addr) (c : Nat) (w : World) (ha : Ex.all w a e.args) : Calls Tryz.prog 75 #[e.val a c] w fun r w' => r = .returned (.bool (needlE e)) ∧ Below w.heap.size w w' := needless_all e.size e (Nat.le_refl _) hf a c w ha
/-- Not built, or with something that it does not need. -/
def noNeat (e : Ex) : Bool := !builtE e || needlE e
set_option maxHeartbeats 1000000 in
set_option maxRecDepth 100000 in
/-- isNotNeat (45). -/
theorem noNeat_any (e : Ex) (hf : e.fin) (a : Option Addr) (c : Nat) (w : World) (ha : Ex.all w a e.args) :
    Calls Tryz.prog 45 #[e.val a c] w fun r w' => r = .returned (.bool (noNeat e)) ∧ Below w.heap.size w w' := by
  have hb0 := below_alloc (Below.refl _ w) (e.box a c)
  have H6 := hide (Six.new w e a c)
  have HB := hide hb0
  have HS := hide (size_any e hf a c _ (Ex.all_later _ ha hb0))
  have HN := hide (fun (W : World) (hW : Below w.heap.size w W) => needless_any e hf a c W (Ex.all_later _ ha hW))
  unfold Ex.box at H6 HB HS
  rw [Ex.val_open] at HS HN ⊢
  unfold noNeat
  have hle := nodE_le e
  generalize needlE e = nl at *
  clear ha hb0
  cases hb : builtE e with
  | true =>
    have hs : sizeB e = ((e.size : Int), (e.high : Int)) := by unfold sizeB; rw [if_pos hb]
    have hn : nodE e = (e.size : Int) := by unfold nodE; rw [if_pos hb]
    rw [hs] at HS
    rw [hn] at hle
    have h4 : ¬ (400 : Int) < (e.size : Int) := by omega
    clear hb hs hn hle
    go_enter Tryz.func45, Tryz.ntmps45
    go_wp2_with (first
      | (go_at_call 70; refine (unhide HS).mono ?_; rintro r w1 ⟨rfl, hb1⟩; obtain ⟨d0, d1, d2, d3, d4, d5⟩ := (unhide H6).later hb1)
      | (go_at_call 75; refine (unhide HN _ (below_step (unhide HB) hb1)).mono ?_; rintro r w2 ⟨rfl, hb2⟩))
    go_ret
    exact ⟨by have h5 : decide ((400 : Int) < (e.size : Int)) = false := decide_eq_false (by omega); show Ending.returned (.bool (decide ((400 : Int) < (e.size : Int)) || nl)) = _; rw [h5]; rfl, below_step (below_step (unhide HB) hb1) hb2⟩
  | false =>
    have hs : sizeB e = (401, 41) := by unfold sizeB; rw [if_neg (by rw [hb]; decide)]
    rw [hs] at HS
    clear hb hs hle
    go_enter Tryz.func45, Tryz.ntmps45
    go_wp2_with (go_at_call 70; refine (unhide HS).mono ?_; rintro r w1 ⟨rfl, hb1⟩)
    go_ret
    exact ⟨rfl, below_step (unhide HB) hb1⟩
def soundP (p : Pl) : Bool := argsB p && needsB p && alikeB p (ndP p)
set_option maxHeartbeats 1000000 in
set_option maxRecDepth 100000 in
/-- isSound of plan (43). -/
theorem soundP_any (p : Pl) (hf : p.fin) (m : Pm) (w : World) (ho : Own4 w p m) : Calls Tryz.prog 43 #[p.val m] w fun r w' => r = .returned (.bool (soundP p)) ∧ Below w.heap.size w w' := by
  have hb0 := below_alloc (Below.refl _ w) (p.box m)
  have HE := hide (Elv.new w p m)
  have HL0 := hide (Elv.new w p m).load
  have HB := hide hb0
  have HA := hide (itsArgs_any p m)
  have HN := hide (fun (W : World) (hW : Below w.heap.size w W) => itsNeeds_any p hf m W (ho.later hW))
  have HO := hide (nothing_any p m)
  unfold soundP
  unfold Pl.box at HE HB HL0
  rw [Pl.val_open] at HA HN HO HL0 ⊢
  generalize alikeB p (ndP p) = ab at *
  clear hb0 ho hf
  cases hA : argsB p
  · rw [hA] at HA
    clear hA HN HO HE
    go_enter Tryz.func43, Tryz.ntmps43
    go_wp2_with (first
      | (refine wpList_load_w ?_ 28 (.tmp 1) rfl _ (by simp [Act.eval]) _ (unhide HL0) ?_; · simp [Region.wanted, yielded])
      | (go_at_call 71; refine (unhide HA _).mono ?_; rintro r w1 ⟨rfl, hb1⟩))
    go_ret
    exact ⟨rfl, below_step (unhide HB) hb1⟩
  · rw [hA] at HA
    cases hN : needsB p
    · rw [hN] at HN
      clear hA hN HO
      go_enter Tryz.func43, Tryz.ntmps43
      go_wp2_with (first
        | (refine wpList_load_w ?_ 28 (.tmp 1) rfl _ (by simp [Act.eval]) _ (unhide HL1) ?_; · simp [Region.wanted, yielded])
        | (refine wpList_load_w ?_ 28 (.tmp 1) rfl _ (by simp [Act.eval]) _ (unhide HL0) ?_; · simp [Region.wanted, yielded])
        | (go_at_call 71; refine (unhide HA _).mono ?_; rintro r w1 ⟨rfl, hb1⟩; have HL1 := hide ((unhide HE).later hb1).load; rw [Pl.val_open] at HL1)
        | (go_at_call 72; refine (unhide HN _ (below_step (unhide HB) hb1)).mono ?_; rintro r w2 ⟨rfl, hb2⟩))
      go_ret
      exact ⟨rfl, below_step (below_step (unhide HB) hb1) hb2⟩
    · rw [hN] at HN
      clear hA hN
      go_enter Tryz.func43, Tryz.ntmps43
      go_wp2_with (first
        | (refine wpList_load_w ?_ 28 (.tmp 1) rfl _ (by simp [Act.eval]) _ (unhide HL2) ?_; · simp [Region.wanted, yielded])
        | (refine wpList_load_w ?_ 28 (.tmp 1) rfl _ (by simp [Act.eval]) _ (unhide HL1) ?_; · simp [Region.wanted, yielded])
        | (refine wpList_load_w ?_ 28 (.tmp 1) rfl _ (by simp [Act.eval]) _ (unhide HL0) ?_; · simp [Region.wanted, yielded])
        | (go_at_call 71; refine (unhide HA _).mono ?_; rintro r w1 ⟨rfl, hb1⟩; have HL1 := hide ((unhide HE).later hb1).load; rw [Pl.val_open] at HL1)
        | (go_at_call 72; refine (unhide HN _ (below_step (unhide HB) hb1)).mono ?_; rintro r w2 ⟨rfl, hb2⟩; have HL2 := hide ((unhide HE).later (below_step hb1 hb2)).load; rw [Pl.val_open] at HL2)
        | (go_at_call 73; refine (unhide HO _).mono ?_; rintro r w3 ⟨rfl, hb3⟩))
      go_ret
      exact ⟨rfl, below_step (below_step (below_step (unhide HB) hb1) hb2) hb3⟩
mutual
/-- A plan that has all that it needs, and nothing else. -/
def bltP : Pl → Bool
  | .mk op tab ex cols keys aggs fn col n o l => soundP (.mk op tab ex cols keys aggs fn col n o l) && !ex.any noNeat && !bltL l
def bltL : List Pl → Bool
  | [] => false
  | p :: l => !bltP p || bltL l
end
theorem bltL_any : ∀ l : List Pl, bltL l = l.any fun p => !bltP p
  | [] => by rw [bltL]; rfl
  | p :: l => by rw [bltL, List.any_cons, bltL_any l]
theorem bltP_eq (p : Pl) : bltP p = (soundP p && !p.ex.any noNeat && !p.args.any fun x => !bltP x) := by cases p; rw [bltP, bltL_any]; rfl
set_option maxHeartbeats 1000000 in
set_option maxRecDepth 100000 in
theorem isBuiltP_step (p : Pl) (hf : p.fin) (m : Pm) (w : World) (ha : PlM w p m)
    (IH : ∀ (i : Nat) x, p.args[i]? = some x → ∀ m' W, PlM W x m' → Calls Tryz.prog 47 #[x.val m'] W fun r w' => r = .returned (.bool (!bltP x)) ∧ Below W.heap.size W w') :
    Calls Tryz.prog 21 #[p.val m] w fun r w' => r = .returned (.bool (bltP p)) ∧ Below w.heap.size w w' := by
  obtain ⟨⟨f1, f2, f3, f4, f5, f6, f7, _⟩, hfx, _⟩ := Pl.fin_open hf
  have hb0 := below_alloc (Below.refl _ w) (p.box m)
  have HE := hide (Elv.new w p m)
  have HL0 := hide (Elv.new w p m).load
  have HB := hide hb0
  have HS := hide (soundP_any p hf m _ (ha.o.later hb0))
  have HX := hide (fun (W : World) (hW : Below w.heap.size w W) => containsE_by p.ex noNeat 45 (fun args w => by kernel_rfl) m.aE m.cE W (by omega) (Ex.all_later _ ha.o.e hW) fun i x hx a' c' W' _ hal => noNeat_any x (Ex.fins_mem hfx (List.mem_of_getElem? hx)) a' c' W' hal)
  have HP := hide (fun (W : World) (hW : Below w.heap.size w W) => containsP_by p.args (fun x => !bltP x) 47 (fun args w => by kernel_rfl) m.aP m.cP W (by omega) (Pl.all_later _ ha.p hW) fun i x hx m' W' _ hal => IH i x hx m' W' hal)
  rw [bltP_eq]
  unfold Pl.box at HE HB HL0 HS
  rw [Pl.val_open] at HS HL0 ⊢
  generalize (p.args.any fun x => !bltP x) = pa at *
  clear hb0 ha hf hfx IH
  cases hS : soundP p
  · rw [hS] at HS
    clear hS HX HP HE
    go_enter Tryz.func21, Tryz.ntmps21
    go_wp2_with (first
      | (refine wpList_load_w ?_ 28 (.tmp 1) rfl _ (by simp [Act.eval]) _ (unhide HL0) ?_; · simp [Region.wanted, yielded])
      | (go_at_call 43; refine (unhide HS).mono ?_; rintro r w1 ⟨rfl, hb1⟩))
    go_ret
    exact ⟨rfl, below_step (unhide HB) hb1⟩
  · rw [hS] at HS
    cases hX : p.ex.any noNeat
    · rw [hX] at HX
      clear hS hX
      go_enter Tryz.func21, Tryz.ntmps21
      go_wp2_with (first
        | (refine wpList_load_w ?_ 28 (.tmp 1) rfl _ (by simp [Act.eval]) _ (unhide HL0) ?_; · simp [Region.wanted, yielded])
        | (go_at_call 43; refine (unhide HS).mono ?_; rintro r w1 ⟨rfl, hb1⟩; have c2 := ((unhide HE).later hb1).c2; simp only [Nat.zero_add] at c2)
        | (go_at_call 44; refine (unhide HX _ (below_step (unhide HB) hb1)).mono ?_; rintro r w2 ⟨rfl, hb2⟩; have c10 := ((unhide HE).later (below_step hb1 hb2)).c10; simp only [Nat.zero_add] at c10)
        | (go_at_call 46; refine (unhide HP _ (below_step (below_step (unhide HB) hb1) hb2)).mono ?_; rintro r w3 ⟨rfl, hb3⟩))
      go_ret
      exact ⟨rfl, below_step (below_step (below_step (unhide HB) hb1) hb2) hb3⟩
    · rw [hX] at HX
      clear hS hX HP
      go_enter Tryz.func21, Tryz.ntmps21
      go_wp2_with (first
        | (refine wpList_load_w ?_ 28 (.tmp 1) rfl _ (by simp [Act.eval]) _ (unhide HL0) ?_; · simp [Region.wanted, yielded])
        | (go_at_call 43; refine (unhide HS).mono ?_; rintro r w1 ⟨rfl, hb1⟩; have c2 := ((unhide HE).later hb1).c2; simp only [Nat.zero_add] at c2)
        | (go_at_call 44; refine (unhide HX _ (below_step (unhide HB) hb1)).mono ?_; rintro r w2 ⟨rfl, hb2⟩))
      go_ret
      exact ⟨rfl, below_step (below_step (unhide HB) hb1) hb2⟩
set_option maxRecDepth 100000 in
theorem isNotBuiltP_of (p : Pl) (m : Pm) (w : World) (h : ∀ W, Below w.heap.size w W → Calls Tryz.prog 21 #[p.val m] W fun r w' => r = .returned (.bool (bltP p)) ∧ Below W.heap.size W w') :
    Calls Tryz.prog 47 #[p.val m] w fun r w' => r = .returned (.bool (!bltP p)) ∧ Below w.heap.size w w' := by
  have HB := hide (below_alloc (Below.refl _ w) (p.box m))
  have HC := hide (h _ (unhide HB))
  have HL0 := hide (Elv.new w p m).load
  unfold Pl.box at HB HC HL0
  rw [Pl.val_open] at HC HL0 ⊢
  generalize bltP p = bb at *
  clear h
  go_enter Tryz.func47, Tryz.ntmps47
  go_wp2_with (first
    | (refine wpList_load_w ?_ 28 (.tmp 1) rfl _ (by simp [Act.eval]) _ (unhide HL0) ?_; · simp [Region.wanted, yielded])
    | (go_at_call 21; refine (unhide HC).mono ?_; rintro r w1 ⟨rfl, hb1⟩))
  go_ret
  exact ⟨rfl, below_step (unhide HB) hb1⟩
theorem isBuiltP_all : ∀ (k : Nat) (p : Pl), p.size ≤ k → p.fin → ∀ (m : Pm) (w : World), PlM w p m → Calls Tryz.prog 21 #[p.val m] w fun r w' => r = .returned (.bool (bltP p)) ∧ Below w.heap.size w w'
  | 0, p, hs, _, _, _, _ => by rw [Pl.size_mk] at hs; omega
  | k + 1, p, hs, hf, m, w, ha => isBuiltP_step p hf m w ha fun i x hx m' W hW => isNotBuiltP_of x m' W fun W' hW' => isBuiltP_all k x (by have := Pl.size_arg hx; omega) (Pl.fin_arg hf hx) m' W' (hW.later hW')
theorem isBuiltP_any (p : Pl) (hf : p.fin) (m : Pm) (w : World) (ha : PlM w p m) : Calls Tryz.prog 21 #[p.val m] w fun r w' => r = .returned (.bool (bltP p)) ∧ Below w.heap.size w w' := isBuiltP_all p.size p (Nat.le_refl _) hf m w ha
/-- Built of plan: the number of its error. -/
def builtR (p : Pl) : Int := if (cntP p 400 40).isSome then (if bltP p then 0 else 1) else 3
set_option maxHeartbeats 1000000 in
set_option maxRecDepth 100000 in
/-- Built of plan (9). -/
theorem builtP_any (p : Pl) (hf : p.fin) (m : Pm) (w : World) (ha : PlM w p m) : Calls Tryz.prog 9 #[p.val m] w fun r w' => r = .returned (.int .i64 (builtR p)) ∧ Below w.heap.size w w' := by
  have hb0 := below_alloc (Below.refl _ w) (p.box m)
  have HE := hide (Elv.new w p m)
  have HL0 := hide (Elv.new w p m).load
  have HB := hide hb0
  have HC := hide (counted_all p.size p (Nat.le_refl _) hf 400 40 m _ (by omega) (by omega) (by omega) (by omega) (ha.later hb0))
  have HI := hide (fun (W : World) (hW : Below w.heap.size w W) => isBuiltP_any p hf m W (ha.later hW))
  unfold builtR
  unfold Pl.box at HE HB HL0 HC
  rw [Pl.val_open] at HC HI HL0 ⊢
  clear hb0 ha hf
  cases hc : cntP p 400 40 with
  | none =>
    rw [hc] at HC
    clear hc HI HE
    go_enter Tryz.func9, Tryz.ntmps9
    go_wp2_with (first
      | (refine wpList_load_w ?_ 28 (.tmp 1) rfl _ (by simp [Act.eval]) _ (unhide HL0) ?_; · simp [Region.wanted, yielded])
      | (go_at_call 20; refine (unhide HC).mono ?_; rintro r w1 ⟨rfl, hb1⟩))
    go_ret
    exact ⟨rfl, below_step (unhide HB) hb1⟩
  | some k =>
    rw [hc] at HC
    clear hc
    cases hi : bltP p
    · rw [hi] at HI
      clear hi
      go_enter Tryz.func9, Tryz.ntmps9
      go_wp2_with (first
        | (refine wpList_load_w ?_ 28 (.tmp 1) rfl _ (by simp [Act.eval]) _ (unhide HL1) ?_; · simp [Region.wanted, yielded])
        | (refine wpList_load_w ?_ 28 (.tmp 1) rfl _ (by simp [Act.eval]) _ (unhide HL0) ?_; · simp [Region.wanted, yielded])
        | (go_at_call 20; refine (unhide HC).mono ?_; rintro r w1 ⟨rfl, hb1⟩; have HL1 := hide ((unhide HE).later hb1).load; rw [Pl.val_open] at HL1)
        | (go_at_call 21; refine (unhide HI _ (below_step (unhide HB) hb1)).mono ?_; rintro r w2 ⟨rfl, hb2⟩))
      go_ret
      exact ⟨rfl, below_step (below_step (unhide HB) hb1) hb2⟩
    · rw [hi] at HI
      clear hi
      go_enter Tryz.func9, Tryz.ntmps9
      go_wp2_with (first
        | (refine wpList_load_w ?_ 28 (.tmp 1) rfl _ (by simp [Act.eval]) _ (unhide HL1) ?_; · simp [Region.wanted, yielded])
        | (refine wpList_load_w ?_ 28 (.tmp 1) rfl _ (by simp [Act.eval]) _ (unhide HL0) ?_; · simp [Region.wanted, yielded])
        | (go_at_call 20; refine (unhide HC).mono ?_; rintro r w1 ⟨rfl, hb1⟩; have HL1 := hide ((unhide HE).later hb1).load; rw [Pl.val_open] at HL1)
        | (go_at_call 21; refine (unhide HI _ (below_step (unhide HB) hb1)).mono ?_; rintro r w2 ⟨rfl, hb2⟩))
      go_ret
      exact ⟨rfl, below_step (below_step (unhide HB) hb1) hb2⟩
end Go.Proofs.YtcpndojkfngioaaGreat
set_option linter.unusedSimpArgs false
set_option linter.unusedVariables false
namespace Go.Proofs.YtcpndojkfngioaaGreat
open Go.RowKit Go.Sort

/-- A node with something that it does not need. -/
def nodeN (e : Ex) : Bool := (decide (¬ e.op = 1) && decide (¬ e.n = 0)) || (decide (¬ e.op = 2) && !samV e.v .null) || !samV e.v (cleanV e.v)
theorem needl_node (e : Ex) : needlE e = (nodeN e || e.args.any needlE) := needlE_eq e
theorem any_neat {e : Ex} (hb : builtE e = true) : e.args.any noNeat = e.args.any needlE := by
  have h : ∀ x ∈ e.args, noNeat x = needlE x := fun x hx => by
    obtain ⟨i, hi, rfl⟩ := List.getElem_of_mem hx
    unfold noNeat
    rw [built_arg hb (List.getElem?_eq_getElem hi)]
    rfl
  rw [Bool.eq_iff_iff, List.any_eq_true, List.any_eq_true]
  exact ⟨fun ⟨x, hx, h2⟩ => ⟨x, hx, by rw [← h x hx]; exact h2⟩, fun ⟨x, hx, h2⟩ => ⟨x, hx, by rw [h x hx]; exact h2⟩⟩
set_option maxHeartbeats 4000000 in
set_option maxRecDepth 100000 in
theorem rneat_step (e : Ex) (hf : e.fin) (a : Option Addr) (c : Nat) (w : World) (ha : Ex.all w a e.args)
    (IH : ∀ (i : Nat) x, e.args[i]? = some x → ∀ a' c' W, Ex.all W a' x.args → Calls Tryz.prog 49 #[x.val a' c'] W fun r w' => r = .returned (.bool (!noNeat x)) ∧ Below W.heap.size W w') :
    Calls Tryz.prog 49 #[e.val a c] w fun r w' => r = .returned (.bool (!noNeat e)) ∧ Below w.heap.size w w' := by
  obtain ⟨⟨hl, _, _, _⟩, _⟩ := Ex.fin_open hf
  have hb0 := below_alloc (Below.refl _ w) (e.box a c)
  have H6 := hide (Six.new w e a c)
  have HBU := hide (rbuilt_any e hf a c _ (Ex.all_later _ ha hb0))
  have HB0 := hide hb0
  have HIH := hide IH
  have HA := hide (fun (W : World) (hW : Below w.heap.size w W) => Ex.all_later _ ha hW)
  obtain ⟨R, hR⟩ : ∃ R, R = noNeat e := ⟨_, rfl⟩
  rw [← hR]
  unfold noNeat at hR
  unfold Ex.box at H6 HBU HB0
  rw [Ex.val_open] at HBU ⊢
  cases hbt : builtE e
  · rw [hbt] at HBU hR
    obtain rfl : R = true := hR
    clear hbt hb0 IH ha hf HIH HA H6
    go_enter Tryz.func49, Tryz.ntmps49
    go_wp2_with (go_at_call 78; refine (unhide HBU).mono ?_; rintro r w1 ⟨rfl, hb1⟩)
    go_ret
    exact ⟨rfl, below_step (unhide HB0) hb1⟩
  rw [hbt] at HBU hR
  have hR2 : R = (nodeN e || e.args.any noNeat) := by rw [hR, any_neat hbt, needl_node]; rfl
  have HR := hide hR2
  have HCL := hide (rclean_any e.v)
  have HN0 := hide (neqV e.v .null)
  have HN1 := hide (neqV e.v (cleanV e.v))
  rw [Val.open_] at HCL
  obtain ⟨nb, hnb⟩ : ∃ nb, nb = nodeN e := ⟨_, rfl⟩
  rw [← hnb] at HR
  unfold nodeN at hnb
  have HNB := hide hnb
  clear hbt hR hR2 hnb hb0 IH ha hf
  go_enter Tryz.func49, Tryz.ntmps49
  go_upto_region 3 with (go_at_call 78; refine (unhide HBU).mono ?_; rintro r wa ⟨rfl, hb1⟩)
  have H6a := hide ((unhide H6).later hb1)
  have HB := hide (below_step (unhide HB0) hb1)
  clear hb1 H6 HB0 HBU
  go_cut [34] (fun s wx => s = .bool nb ∧ Below wa.heap.size wa wx)
  case first =>
    obtain ⟨d0, d1, d2, d3, d4, d5⟩ := unhide H6a
    have k0 := cell_regrown d0
    have k1 := cell_regrown d1
    have k2 := cell_regrown d2
    have k3 := cell_regrown d3
    have k4 := cell_regrown d4
    clear d0 d1 d2 d3 d4 d5 HR
    by_cases o1 : e.op = 1
    · have p1 : (e.op != 1) = false := by rw [o1]; rfl
      have p2 : (e.op != 2) = true := by rw [o1]; rfl
      cases hz : samV e.v .null
      · rw [hz] at HN0
        have n0 : ∀ W, (binOp .neq 65 (.agg #[.int .i64 e.v.k, .int .i64 e.v.n, .string e.v.s]) (.agg #[.int .i64 0, .int .i64 0, .string ⟨#[]⟩])).run Tryz.prog W = .ok (.bool true) W := fun W => unhide HN0 W
        obtain rfl : nb = true := by rw [unhide HNB, o1, hz]; rfl
        clear HNB hz o1 HN0
        refine wp_region_quiet_below (by kernel_rfl) (by kernel_rfl) ?_
        repeat (go_big_quiet_step ((go_at_call 26; exact Calls.regrown_of (unhide HCL _))))
        refine wpQuiet_nil ?_
        intro w2 hw2
        have hB2 : Below wa.heap.size wa w2 := by obtain ⟨p, rfl⟩ := hw2; exact below_regrown _ _ _
        clear hw2
        go_wp2
        go_meet
        exact ⟨rfl, hB2⟩
      · have hv := samV_eq hz
        have hcv : cleanV e.v = e.v := by rw [hv]; rfl
        rw [hcv] at HCL HN1
        rw [samV_self] at HN1
        rw [hz] at HN0
        have n0 : ∀ W, (binOp .neq 65 (.agg #[.int .i64 e.v.k, .int .i64 e.v.n, .string e.v.s]) (.agg #[.int .i64 0, .int .i64 0, .string ⟨#[]⟩])).run Tryz.prog W = .ok (.bool false) W := fun W => unhide HN0 W
        have n1 : ∀ W, (binOp .neq 65 (.agg #[.int .i64 e.v.k, .int .i64 e.v.n, .string e.v.s]) (.agg #[.int .i64 e.v.k, .int .i64 e.v.n, .string e.v.s])).run Tryz.prog W = .ok (.bool false) W := fun W => unhide HN1 W
        obtain rfl : nb = false := by rw [unhide HNB, o1, hz, hcv, samV_self]; rfl
        rw [Val.open_] at HCL
        clear HNB hz o1 HN0 HN1 hv hcv
        refine wp_region_quiet_below (by kernel_rfl) (by kernel_rfl) ?_
        repeat (go_big_quiet_step ((go_at_call 26; exact Calls.regrown_of (unhide HCL _))))
        refine wpQuiet_nil ?_
        intro w2 hw2
        have hB2 : Below wa.heap.size wa w2 := by obtain ⟨p, rfl⟩ := hw2; exact below_regrown _ _ _
        clear hw2
        go_wp2
        go_meet
        exact ⟨rfl, hB2⟩
    by_cases o2 : e.op = 2
    · have p1 : (e.op != 1) = true := by rw [o2]; rfl
      have p2 : (e.op != 2) = false := by rw [o2]; rfl
      by_cases hn : e.n = 0
      · have p3 : (e.n != 0) = false := by rw [hn]; rfl
        cases hc : samV e.v (cleanV e.v)
        · rw [hc] at HN1
          have n1 : ∀ W, (binOp .neq 65 (.agg #[.int .i64 e.v.k, .int .i64 e.v.n, .string e.v.s]) (.agg #[.int .i64 (cleanV e.v).k, .int .i64 (cleanV e.v).n, .string (cleanV e.v).s])).run Tryz.prog W = .ok (.bool true) W := fun W => unhide HN1 W
          obtain rfl : nb = true := by rw [unhide HNB, o2, hn, hc]; rfl
          rw [Val.open_] at HCL
          generalize cleanV e.v = cv at *
          clear HNB hc o1 o2 HN0 HN1 hn
          refine wp_region_quiet_below (by kernel_rfl) (by kernel_rfl) ?_
          repeat (go_big_quiet_step ((go_at_call 26; exact Calls.regrown_of (unhide HCL _))))
          refine wpQuiet_nil ?_
          intro w2 hw2
          have hB2 : Below wa.heap.size wa w2 := by obtain ⟨p, rfl⟩ := hw2; exact below_regrown _ _ _
          clear hw2
          go_wp2
          go_meet
          exact ⟨rfl, hB2⟩
        · have hcv := (samV_eq hc).symm
          rw [hcv] at HCL HN1
          rw [samV_self] at HN1
          have n1 : ∀ W, (binOp .neq 65 (.agg #[.int .i64 e.v.k, .int .i64 e.v.n, .string e.v.s]) (.agg #[.int .i64 e.v.k, .int .i64 e.v.n, .string e.v.s])).run Tryz.prog W = .ok (.bool false) W := fun W => unhide HN1 W
          obtain rfl : nb = false := by rw [unhide HNB, o2, hn, hcv, samV_self]; rfl
          rw [Val.open_] at HCL
          clear HNB hc o1 o2 HN0 HN1 hn hcv
          refine wp_region_quiet_below (by kernel_rfl) (by kernel_rfl) ?_
          repeat (go_big_quiet_step ((go_at_call 26; exact Calls.regrown_of (unhide HCL _))))
          refine wpQuiet_nil ?_
          intro w2 hw2
          have hB2 : Below wa.heap.size wa w2 := by obtain ⟨p, rfl⟩ := hw2; exact below_regrown _ _ _
          clear hw2
          go_wp2
          go_meet
          exact ⟨rfl, hB2⟩
      · have p3 : (e.n != 0) = true := by simpa using hn
        obtain rfl : nb = true := by rw [unhide HNB, o2]; simp [hn]
        clear HNB o1 o2 HN0 HN1 hn
        refine wp_region_quiet_below (by kernel_rfl) (by kernel_rfl) ?_
        repeat (go_big_quiet_step ((go_at_call 26; exact Calls.regrown_of (unhide HCL _))))
        refine wpQuiet_nil ?_
        intro w2 hw2
        have hB2 : Below wa.heap.size wa w2 := by obtain ⟨p, rfl⟩ := hw2; exact below_regrown _ _ _
        clear hw2
        go_wp2
        go_meet
        exact ⟨rfl, hB2⟩
    · have p1 : (e.op != 1) = true := by simpa using o1
      have p2 : (e.op != 2) = true := by simpa using o2
      by_cases hn : e.n = 0
      · have p3 : (e.n != 0) = false := by rw [hn]; rfl
        cases hz : samV e.v .null
        · rw [hz] at HN0
          have n0 : ∀ W, (binOp .neq 65 (.agg #[.int .i64 e.v.k, .int .i64 e.v.n, .string e.v.s]) (.agg #[.int .i64 0, .int .i64 0, .string ⟨#[]⟩])).run Tryz.prog W = .ok (.bool true) W := fun W => unhide HN0 W
          obtain rfl : nb = true := by rw [unhide HNB, hz]; simp [o2]
          clear HNB hz o1 o2 HN0 hn
          refine wp_region_quiet_below (by kernel_rfl) (by kernel_rfl) ?_
          repeat (go_big_quiet_step ((go_at_call 26; exact Calls.regrown_of (unhide HCL _))))
          refine wpQuiet_nil ?_
          intro w2 hw2
          have hB2 : Below wa.heap.size wa w2 := by obtain ⟨p, rfl⟩ := hw2; exact below_regrown _ _ _
          clear hw2
          go_wp2
          go_meet
          exact ⟨rfl, hB2⟩
        · have hv := samV_eq hz
          have hcv : cleanV e.v = e.v := by rw [hv]; rfl
          rw [hcv] at HCL HN1
          rw [samV_self] at HN1
          rw [hz] at HN0
          have n0 : ∀ W, (binOp .neq 65 (.agg #[.int .i64 e.v.k, .int .i64 e.v.n, .string e.v.s]) (.agg #[.int .i64 0, .int .i64 0, .string ⟨#[]⟩])).run Tryz.prog W = .ok (.bool false) W := fun W => unhide HN0 W
          have n1 : ∀ W, (binOp .neq 65 (.agg #[.int .i64 e.v.k, .int .i64 e.v.n, .string e.v.s]) (.agg #[.int .i64 e.v.k, .int .i64 e.v.n, .string e.v.s])).run Tryz.prog W = .ok (.bool false) W := fun W => unhide HN1 W
          obtain rfl : nb = false := by rw [unhide HNB, hz, hcv, samV_self, hn]; simp
          rw [Val.open_] at HCL
          clear HNB hz o1 o2 HN0 HN1 hv hcv hn
          refine wp_region_quiet_below (by kernel_rfl) (by kernel_rfl) ?_
          repeat (go_big_quiet_step ((go_at_call 26; exact Calls.regrown_of (unhide HCL _))))
          refine wpQuiet_nil ?_
          intro w2 hw2
          have hB2 : Below wa.heap.size wa w2 := by obtain ⟨p, rfl⟩ := hw2; exact below_regrown _ _ _
          clear hw2
          go_wp2
          go_meet
          exact ⟨rfl, hB2⟩
      · have p3 : (e.n != 0) = true := by simpa using hn
        obtain rfl : nb = true := by rw [unhide HNB]; simp [hn, o1]
        clear HNB o1 o2 HN0 HN1 hn
        refine wp_region_quiet_below (by kernel_rfl) (by kernel_rfl) ?_
        repeat (go_big_quiet_step ((go_at_call 26; exact Calls.regrown_of (unhide HCL _))))
        refine wpQuiet_nil ?_
        intro w2 hw2
        have hB2 : Below wa.heap.size wa w2 := by obtain ⟨p, rfl⟩ := hw2; exact below_regrown _ _ _
        clear hw2
        go_wp2
        go_meet
        exact ⟨rfl, hB2⟩
  case rest =>
    obtain ⟨rfl, hbx⟩ := hcut
    have HBX := hide (below_step (unhide HB) hbx)
    have H6b := hide ((unhide H6a).later hbx)
    clear hbx HB H6a HNB HCL HN0 HN1
    cases nb
    · have HR2 : Hid (R = e.args.any noNeat) := unhide HR
      obtain ⟨-, -, -, -, -, d5⟩ := unhide H6b
      clear HR
      obtain ⟨wz, hwz⟩ : ∃ wz, wz = wc := ⟨_, rfl⟩
      subst hwz
      go_wp2_with fail
      go_loopw [38] (fun i wr => ∃ (k : Nat), k ≤ e.args.length ∧ i = .int .i64 (k : Int) ∧ Hid ((e.args.take k).any noNeat = false) ∧ Hid (Below wz.heap.size wz wr)) (fun i _ => e.args.length - (intOf i).toNat)
      case atStart => exact ⟨0, Nat.zero_le _, rfl, by show (e.args.take 0).any noNeat = false; rfl, Below.refl _ _⟩
      case round =>
        clear d5
        obtain ⟨k, hk, rfl, HN, HBL⟩ := hrel
        by_cases hlt : k < e.args.length
        · have h9 : (k : Int) < (e.args.length : Int) := by omega
          obtain ⟨x, hx⟩ : ∃ x, e.args[k]? = some x := ⟨_, List.getElem?_eq_getElem hlt⟩
          have hbw := below_step (unhide HBX) (unhide HBL)
          obtain ⟨vb, vo, ea, hat⟩ := Ex.all_get (unhide HA _ hbw) hx
          obtain ⟨a', c', ⟨d0, d1, d2, d3, d4, d5⟩, hal⟩ := Ex.at_open hat
          have hba := below_alloc (Below.refl _ wr) (x.box a' c')
          have HC := hide (unhide HIH k x hx a' c' _ (Ex.all_later _ hal hba))
          have HB2 := hide (below_step (unhide HBL) hba)
          unfold Ex.box at HC HB2
          rw [Ex.val_open] at HC
          have HY : Hid (noNeat x = false → (e.args.take (k + 1)).any noNeat = false) := fun h => any_snoc hx (unhide HN) h
          have HX : Hid (noNeat x = true → R = true) := fun h => by rw [unhide HR2]; exact any_mem hx h
          generalize noNeat x = nx at *
          rw [ea]
          clear hx hat hal hba hbw HN HBL
          cases nx
          · have HN2 := hide (unhide HY rfl)
            go_wp2_with (go_at_call 49; refine (unhide HC).mono ?_; rintro r w3 ⟨rfl, hb3⟩)
            exact ⟨⟨k + 1, by omega, by go_num, unhide HN2, below_step (unhide HB2) hb3⟩, by simp [intOf]; omega⟩
          · have HZ := hide (unhide HX rfl)
            go_wp2_with (go_at_call 49; refine (unhide HC).mono ?_; rintro r w3 ⟨rfl, hb3⟩)
            go_ret
            exact ⟨by rw [unhide HZ]; rfl, below_step (unhide HBX) (below_step (unhide HB2) hb3)⟩
        · have h9 : ¬ (k : Int) < (e.args.length : Int) := by omega
          have HZ : Hid (R = false) := by
            have h := unhide HN
            rw [List.take_of_length_le (by omega)] at h
            rw [unhide HR2]
            exact h
          clear HN
          go_wp2
          go_ret
          exact ⟨by rw [unhide HZ]; rfl, below_step (unhide HBX) (unhide HBL)⟩
    · obtain rfl : R = true := unhide HR
      go_wp2
      go_ret
      exact ⟨rfl, unhide HBX⟩
theorem rneat_all : ∀ (k : Nat) (e : Ex), e.size ≤ k → e.fin → ∀ (a : Option Addr) (c : Nat) (w : World), Ex.all w a e.args → Calls Tryz.prog 49 #[e.val a c] w fun r w' => r = .returned (.bool (!noNeat e)) ∧ Below w.heap.size w w'
  | 0, e, hs, _, _, _, _, _ => by rw [Ex.size_mk] at hs; omega
  | k + 1, e, hs, hf, a, c, w, ha => rneat_step e hf a c w ha fun i x hx a' c' W hW => rneat_all k x (by have := Ex.size_arg hx; omega) (Ex.fin_arg hf hx) a' c' W hW
theorem rneat_any (e : Ex) (hf : e.fin) (a : Option Addr) (c : Nat) (w : World) (ha : Ex.all w a e.args) : Calls Tryz.prog 49 #[e.val a c] w fun r w' => r = .returned (.bool (!noNeat e)) ∧ Below w.heap.size w w' := rneat_all e.size e (Nat.le_refl _) hf a c w ha
end Go.Proofs.YtcpndojkfngioaaGreat

import Derived.Test.YtmagpdblacgneaaGreatPaF
import Derived.Test.YtmagpdblacgneaaGreatExV
set_option linter.unusedSimpArgs false
set_option linter.unusedVariables false
namespace Go.Proofs.YtmagpdblacgneaaGreat
open Go.RowKit Go.Sort

/-- Every node will do. -/
def allE (_ : Ex) : Bool := true
theorem alltrue_any (e : Ex) (a : Option Addr) (c : Nat) (w : World) : Calls Tryz.prog 40 #[e.val a c] w fun r w' => r = .returned (.bool (allE e)) ∧ Below w.heap.size w w' := by
  rw [Ex.val_open]
  go_enter Tryz.func40, Tryz.ntmps40
  go_wp2
  go_ret
  exact ⟨rfl, by first | exact Below.refl _ _ | exact below_alloc (Below.refl _ _) _⟩
theorem measuredA_step (e : Ex) (hf : e.fin) (N H : Int) (a : Option Addr) (c : Nat) (w : World) (hN0 : 0 ≤ N) (hN : N ≤ 40000000) (hH0 : 0 ≤ H) (hH : H ≤ 200000) (ha : Ex.all w a e.args)
    (IH : ∀ (i : Nat) (x : Ex), e.args[i]? = some x → ∀ (N' H' : Int) (a' : Option Addr) (c' : Nat) (W : World), 0 ≤ N' → N' ≤ 40000000 → 0 ≤ H' → H' ≤ 200000 → Ex.all W a' x.args → Calls Tryz.prog 38 #[x.val a' c', .int .i64 N', .int .i64 H', .func (.func 40) #[] #[]] W fun r w' => r = M3 (measE allE x N' H') ∧ Below W.heap.size W w') :
    Calls Tryz.prog 38 #[e.val a c, .int .i64 N, .int .i64 H, .func (.func 40) #[] #[]] w fun r w' => r = M3 (measE allE e N H) ∧ Below w.heap.size w w' := by
  obtain ⟨⟨hl, hv, _, _⟩, _⟩ := Ex.fin_open hf
  have HS := hide (fun W => alltrue_any e a c W)
  obtain ⟨R, hR⟩ : ∃ R, R = measE allE e N H := ⟨_, rfl⟩
  have HR : Hid (R = if decide (N < 1) || decide (H < 1) || !allE e then (0, 0, false) else match measL allE e.args N H 1 0 with
    | some (c, h) => (c, h + 1, true)
    | none => (0, 0, false)) := by rw [hR]; exact measE_eq allE e N H
  rw [← hR]
  have H6 : Hid (Six (w.alloc (.cells #[.int .i64 e.op, .int .i64 e.n, .int .i64 e.v.k, .int .i64 e.v.n, .string e.v.s, .slice a e.args.length c] 26)) w.heap.size e a c) := Six.new w e a c
  have HB := hide (below_alloc (Below.refl _ w) (.cells #[.int .i64 e.op, .int .i64 e.n, .int .i64 e.v.k, .int .i64 e.v.n, .string e.v.s, .slice a e.args.length c] 26))
  have HIH := hide IH
  have HAL := hide ha
  rw [Ex.val_open] at HS ⊢
  clear hR ha IH
  by_cases h1 : N < 1
  · go_enter Tryz.func38, Tryz.ntmps38
    go_wp2
    refine bodyPost_ret (v := .tuple #[.int .i64 0, .int .i64 0, .bool false]) (by simp [results, Tryz.results38, go_sem]) rfl ⟨by rw [unhide HR]; simp [h1], unhide HB⟩
  by_cases h2 : H < 1
  · go_enter Tryz.func38, Tryz.ntmps38
    go_wp2
    refine bodyPost_ret (v := .tuple #[.int .i64 0, .int .i64 0, .bool false]) (by simp [results, Tryz.results38, go_sem]) rfl ⟨by rw [unhide HR]; simp [h2], unhide HB⟩
  obtain ⟨sb, hsb⟩ : ∃ sb, sb = allE e := ⟨_, rfl⟩
  rw [← hsb] at HS HR
  have n1 : decide (N < 1) = false := by simpa using h1
  have n2 : decide (H < 1) = false := by simpa using h2
  rw [n1, n2] at HR
  cases sb with
  | false =>
    clear hsb n1 n2
    go_enter Tryz.func38, Tryz.ntmps38
    go_wp2_with (go_at_call 40; refine (unhide HS _).mono ?_; rintro e' w1 ⟨rfl, hb1⟩)
    refine bodyPost_ret (v := .tuple #[.int .i64 0, .int .i64 0, .bool false]) (by simp [results, Tryz.results38, go_sem]) rfl ⟨by rw [unhide HR]; rfl, below_one hb1⟩
  | true =>
    clear hsb n1 n2
    have HR2 : Hid (R = match measL allE e.args N H 1 0 with
      | some (c, h) => (c, h + 1, true)
      | none => (0, 0, false)) := by have := unhide HR; show _ = _; simpa using this
    clear HR
    go_enter Tryz.func38, Tryz.ntmps38
    go_wp2_with (go_at_call 40; refine (unhide HS _).mono ?_; rintro e' w1 ⟨rfl, hb1⟩; obtain ⟨c0, c1, c2, c3, c4, c5⟩ := (unhide H6).later hb1)
    have HB1 := hide (below_step (unhide HB) hb1)
    have HAL1 := hide (Ex.all_later _ (unhide HAL) (unhide HB1))
    clear hb1 HS
    go_loopw [11, 12, 33] (fun s11 s12 i wr => ∃ (k : Nat) (cc hh : Int), k ≤ e.args.length ∧ i = .int .i64 (k : Int) ∧ s11 = .int .i64 cc ∧ s12 = .int .i64 hh ∧ 1 ≤ cc ∧ cc ≤ N ∧ 0 ≤ hh ∧ hh ≤ H - 1 ∧ Hid (measL allE e.args N H 1 0 = measL allE (e.args.drop k) N H cc hh) ∧ Below w1.heap.size w1 wr) (fun _ _ i _ => e.args.length - (intOf i).toNat)
    case atStart => exact ⟨0, 1, 0, Nat.zero_le _, rfl, rfl, rfl, by omega, by omega, by omega, by omega, rfl, Below.refl _ _⟩
    case round =>
      obtain ⟨k, cc, hh, hk, rfl, rfl, rfl, g1, g2, g3, g4, HM, hb⟩ := hrel
      by_cases hlt : k < e.args.length
      · have h9 : (k : Int) < (e.args.length : Int) := by omega
        obtain ⟨x, hx⟩ : ∃ x, e.args[k]? = some x := ⟨_, List.getElem?_eq_getElem hlt⟩
        have hd : e.args.drop k = x :: e.args.drop (k + 1) := by
          obtain ⟨q1, q2⟩ := List.getElem?_eq_some_iff.1 hx
          rw [List.drop_eq_getElem_cons q1, q2]
        obtain ⟨vb, vo, ea, hat⟩ := Ex.all_get (Ex.all_later _ (unhide HAL1) hb) hx
        obtain ⟨a', c', ⟨d0, d1, d2, d3, d4, d5⟩, hal⟩ := Ex.at_open hat
        have HC := hide (unhide HIH k x hx (N - cc) (H - 1) a' c' (wr.alloc (.cells #[.int .i64 x.op, .int .i64 x.n, .int .i64 x.v.k, .int .i64 x.v.n, .string x.v.s, .slice a' x.args.length c'] 26)) (by omega) (by omega) (by omega) (by omega) (Ex.all_later _ hal (below_alloc (Below.refl _ _) _)))
        rw [Ex.val_open] at HC
        rw [hd, measL] at HM
        obtain ⟨q, hq⟩ : ∃ q, measE allE x (N - cc) (H - 1) = q := ⟨_, rfl⟩
        rw [hq] at HC HM
        have HQ := hide hq
        obtain ⟨c2', h2', ok⟩ := q
        have HB2 := hide (below_alloc hb (.cells #[.int .i64 x.op, .int .i64 x.n, .int .i64 x.v.k, .int .i64 x.v.n, .string x.v.s, .slice a' x.args.length c'] 26))
        subst ea
        clear hx hd hat hal hq hb
        cases ok with
        | false =>
          have HE : Hid (R = (0, 0, false)) := by have h1 := unhide HM; have h2 := unhide HR2; rw [h1] at h2; show _ = _; simpa using h2
          clear HM HQ
          go_wp2_with (go_at_call 38; refine (unhide HC).mono ?_; rintro r w3 ⟨rfl, hb3⟩)
          refine bodyPost_ret (v := .tuple #[.int .i64 0, .int .i64 0, .bool false]) (by simp [results, Tryz.results38, go_sem]) rfl ⟨by rw [unhide HE], below_step (unhide HB1) (below_step (unhide HB2) hb3)⟩
        | true =>
          obtain ⟨m1, m2, m3, m4⟩ := meas_le allE x (N - cc) (H - 1) (unhide HQ)
          have HM2 : Hid (measL allE e.args N H 1 0 = measL allE (e.args.drop (k + 1)) N H (cc + c2') (max hh h2')) := by have := unhide HM; show _ = _; simpa using this
          clear HM HQ
          go_wp2_with (go_at_call 38; refine (unhide HC).mono ?_; rintro r w3 ⟨rfl, hb3⟩)
          refine ⟨⟨k + 1, cc + c2', max hh h2', by omega, by go_num, rfl, by rw [max_if], by omega, by omega, by omega, by omega, HM2, below_step (unhide HB2) hb3⟩, by simp [intOf]; omega⟩
      · have h9 : ¬ (k : Int) < (e.args.length : Int) := by omega
        have HE : Hid (R = (cc, hh + 1, true)) := by
          have h1 := unhide HM
          have h2 := unhide HR2
          rw [List.drop_eq_nil_of_le (by omega), measL] at h1
          rw [h1] at h2
          exact h2
        have HBE := hide (below_step (unhide HB1) hb)
        clear HM HR2 hb
        go_wp2
        refine bodyPost_ret (v := .tuple #[.int .i64 cc, .int .i64 (hh + 1), .bool true]) (by simp [results, Tryz.results38, go_sem]) rfl ⟨by rw [unhide HE], unhide HBE⟩
theorem measuredA_all : ∀ (k : Nat) (e : Ex), e.size ≤ k → e.fin → ∀ (N H : Int) (a : Option Addr) (c : Nat) (w : World), 0 ≤ N → N ≤ 40000000 → 0 ≤ H → H ≤ 200000 → Ex.all w a e.args →
    Calls Tryz.prog 38 #[e.val a c, .int .i64 N, .int .i64 H, .func (.func 40) #[] #[]] w fun r w' => r = M3 (measE allE e N H) ∧ Below w.heap.size w w'
  | 0, e, hs, _, _, _, _, _, _, _, _, _, _, _ => by rw [Ex.size_mk] at hs; omega
  | k + 1, e, hs, hf, N, H, a, c, w, h1, h2, h3, h4, ha => measuredA_step e hf N H a c w h1 h2 h3 h4 ha fun i x hx N' H' a' c' W g1 g2 g3 g4 hW =>
    measuredA_all k x (by have := Ex.size_arg hx; omega) (Ex.fin_arg hf hx) N' H' a' c' W g1 g2 g3 g4 hW
set_option maxHeartbeats 400000 in
theorem made_all {F : Value} {g : Ex → Ex} {P Q : Ex → Prop} (hP : ∀ x, Q x → P (nodeG g x)) (hQ : ∀ (x y : Ex) (i : Nat), Q x → x.args[i]? = some y → Q y) : ∀ (k : Nat) (e : Ex), e.size ≤ k → e.short → Q e → ∀ (a : Option Addr) (c : Nat) (w : World), Ex.all w a e.args → By w F g P →
    Calls Tryz.prog 23 #[e.val a c, F] w fun r w' => ∃ a2 c2, r = .returned ((madeE g e).val a2 c2) ∧ ExK w.heap.size w' a2 c2 (madeE g e).args ∧ Below w.heap.size w w'
  | 0, e, hs, _, _, _, _, _, _, _ => by rw [Ex.size_mk] at hs; omega
  | k + 1, e, hs, hsh, hq, a, c, w, ha, hby => made_step e hsh F g P a c w ha hby (hP e hq) fun i x hx a' c' W hW hbW =>
    made_all hP hQ k x (by have := Ex.size_arg hx; omega) (Ex.short_arg hsh hx) (hQ e x i hq hx) a' c' W hW hbW
theorem same_any (e : Ex) (a : Option Addr) (c : Nat) (w : World) : Calls Tryz.prog 41 #[e.val a c] w fun r w' => r = .returned (e.val a c) ∧ Below w.heap.size w w' := by
  rw [Ex.val_open]
  go_enter Tryz.func41, Tryz.ntmps41
  go_wp2
  refine bodyPost_ret (v := e.val a c) (by simp [results, Tryz.results41, go_sem, Ex.val]) rfl ⟨rfl, below_alloc (below_alloc (Below.refl _ _) _) _⟩
theorem entSame : Enters 41 := fun args w => by kernel_rfl
set_option maxRecDepth 100000 in
theorem by_same (W : World) : By W (.func (.func 41) #[] #[]) id (fun _ => True) :=
  ⟨41, #[], rfl, entSame, fun W' lo e a c _ _ _ hK => (same_any e a c W').mono fun r w' ⟨h1, h2⟩ => ⟨a, c, h1, hK.on (Kept.of_below _ _ h2), h2⟩⟩
/-- A copy, where it isn't too large for one. -/
def copyT (e : Ex) : Ex := if (measE allE e 33554432 131072).2.2 then copyE e else e
/-- What lies in elder blocks, or in those from w on but N, whatever becomes of those. -/
def ExL (w : World) (N : List Nat) (w' : World) (a : Option Addr) (l : List Ex) : Prop := ∀ W', Below w.heap.size w W' → Kept w.heap.size N w' W' → Ex.all W' a l
set_option maxHeartbeats 400000 in
set_option maxRecDepth 100000 in
/-- copied (16). -/
theorem copied_any (e : Ex) (hf : e.fin) (a : Option Addr) (c : Nat) (w : World) (ha : Ex.all w a e.args) :
    Calls Tryz.prog 22 #[e.val a c] w fun r w' => ∃ a2 c2, r = .returned ((copyT e).val a2 c2) ∧ ((measE allE e 33554432 131072).2.2 = true → ExK w.heap.size w' a2 c2 (copyT e).args) ∧ ExL w [] w' a2 (copyT e).args ∧ Below w.heap.size w w' := by
  have HM := hide (fun (W : World) (hW : Below w.heap.size w W) => measuredA_all e.size e (Nat.le_refl _) hf 33554432 131072 a c W (by omega) (by omega) (by omega) (by omega) (Ex.all_later _ ha hW))
  have HMD : Hid ((measE allE e 33554432 131072).2.2 = true → ∀ (W : World), Below w.heap.size w W → Calls Tryz.prog 23 #[e.val a c, .func (.func 41) #[] #[]] W fun r w' => ∃ a2 c2, r = .returned ((copyE e).val a2 c2) ∧ ExK W.heap.size w' a2 c2 (copyE e).args ∧ Below W.heap.size W w') := fun hm W hW => by
    have h := made_all (F := .func (.func 41) #[] #[]) (g := id) (P := fun _ => True) (Q := fun _ => True) (fun _ _ => trivial) (fun _ _ _ _ _ => trivial) e.size e (Nat.le_refl _) (meas_short allE e _ _ (by omega) hm) trivial a c W (Ex.all_later _ ha hW) (by_same W)
    rw [made_copy] at h
    exact h
  have HA := hide (fun (W : World) (hW : Below w.heap.size w W) => Ex.all_later _ ha hW)
  have HB0 : Hid (Below w.heap.size w ((w.alloc (.cells #[.int .i64 e.op, .int .i64 e.n, .int .i64 e.v.k, .int .i64 e.v.n, .string e.v.s, .slice a e.args.length c] 26)).alloc (.cells #[.int .i64 0, .int .i64 0, .int .i64 0, .int .i64 0, .string ⟨#[]⟩, .slice none 0 0] 26))) := below_alloc (below_alloc (Below.refl _ w) _) _
  have H6 : Hid (Six ((w.alloc (.cells #[.int .i64 e.op, .int .i64 e.n, .int .i64 e.v.k, .int .i64 e.v.n, .string e.v.s, .slice a e.args.length c] 26)).alloc (.cells #[.int .i64 0, .int .i64 0, .int .i64 0, .int .i64 0, .string ⟨#[]⟩, .slice none 0 0] 26)) w.heap.size e a c) := (Six.new w e a c).later (below_alloc (Below.refl _ _) _)
  have HZ : Hid (Box6 ((w.alloc (.cells #[.int .i64 e.op, .int .i64 e.n, .int .i64 e.v.k, .int .i64 e.v.n, .string e.v.s, .slice a e.args.length c] 26)).alloc (.cells #[.int .i64 0, .int .i64 0, .int .i64 0, .int .i64 0, .string ⟨#[]⟩, .slice none 0 0] 26)) (w.heap.size + 1) zeroE none 0) := by
    have h := Box6.new (w.alloc (.cells #[.int .i64 e.op, .int .i64 e.n, .int .i64 e.v.k, .int .i64 e.v.n, .string e.v.s, .slice a e.args.length c] 26)) zeroE none 0
    rw [show (w.alloc (.cells #[.int .i64 e.op, .int .i64 e.n, .int .i64 e.v.k, .int .i64 e.v.n, .string e.v.s, .slice a e.args.length c] 26)).heap.size = w.heap.size + 1 by simp [go_sem]] at h
    exact h
  have HS : Hid (((w.alloc (.cells #[.int .i64 e.op, .int .i64 e.n, .int .i64 e.v.k, .int .i64 e.v.n, .string e.v.s, .slice a e.args.length c] 26)).alloc (.cells #[.int .i64 0, .int .i64 0, .int .i64 0, .int .i64 0, .string ⟨#[]⟩, .slice none 0 0] 26)).heap.size = w.heap.size + 2) := by
    show _ = _
    simp [go_sem]
  clear ha
  unfold copyT
  obtain ⟨q, hq⟩ : ∃ q, measE allE e 33554432 131072 = q := ⟨_, rfl⟩
  rw [hq] at HM HMD ⊢
  obtain ⟨c2, h2, ok⟩ := q
  clear hq
  rw [Ex.val_open] at HM HMD ⊢
  cases ok with
  | false =>
    clear HMD
    simp only [Bool.false_eq_true, if_false]
    go_enter Tryz.func22, Tryz.ntmps22
    go_wp2_with (go_at_call 38; refine (unhide HM _ (unhide HB0)).mono ?_; rintro r w1 ⟨rfl, hb1⟩; obtain ⟨b0, b1, b2, b3, b4, b5⟩ := (unhide H6).later hb1; obtain ⟨⟨z0, z1, z2, z3, z4, z5⟩, f0, f1, f2, f3, f4, f5⟩ := (unhide HZ).later hb1)
    refine bodyPost_ret (v := e.val a c) (by simp [results, Tryz.results22, go_sem, Ex.val, *]) rfl ⟨a, c, rfl, fun h => absurd h (by simp), fun W' hW _ => unhide HA W' hW, ?_⟩
    exact put6 (below_step (unhide HB0) hb1) (by omega) _ _ _ _ _ _
  | true =>
    have HM2 := hide (unhide HMD rfl)
    clear HMD
    simp only [if_true]
    go_enter Tryz.func22, Tryz.ntmps22
    go_wp2_with (first
      | (go_at_call 38; refine (unhide HM _ (unhide HB0)).mono ?_; rintro r w1 ⟨rfl, hb1⟩; have hB1 := below_step (unhide HB0) hb1; obtain ⟨b0, b1, b2, b3, b4, b5⟩ := (unhide H6).later hb1)
      | (go_at_call 23; refine (unhide HM2 _ hB1).mono ?_; rintro r w2 ⟨a2, c2, rfl, hK2, hb2⟩; have HK2 := hide hK2; clear hK2; have hs1 := (unhide HS); have hs2 := hb1.size; obtain ⟨⟨z0, z1, z2, z3, z4, z5⟩, f0, f1, f2, f3, f4, f5⟩ := (unhide HZ).later (below_step hb1 hb2); rw [Ex.val_open]))
    refine bodyPost_ret (v := (copyE e).val a2 c2) (by simp [results, Tryz.results22, go_sem, Ex.val, *]) rfl ⟨a2, c2, rfl, fun _ => ?_, fun W' _ hW => ?_, ?_⟩
    · refine (((unhide HK2).on ((((((Kept.of_low _ _ _ _ ?_).trans (Kept.of_low _ _ _ _ ?_)).trans (Kept.of_low _ _ _ _ ?_)).trans (Kept.of_low _ _ _ _ ?_)).trans (Kept.of_low _ _ _ _ ?_)).trans (Kept.of_low _ _ _ _ ?_))).more (by omega)) <;> omega
    · refine (((unhide HK2).on ((((((Kept.of_low _ _ _ _ ?_).trans (Kept.of_low _ _ _ _ ?_)).trans (Kept.of_low _ _ _ _ ?_)).trans (Kept.of_low _ _ _ _ ?_)).trans (Kept.of_low _ _ _ _ ?_)).trans (Kept.of_low _ _ _ _ ?_))).more (by omega)).on hW |>.now <;> omega
    · exact put6 (below_step hB1 hb2) (by omega) _ _ _ _ _ _
end Go.Proofs.YtmagpdblacgneaaGreat
set_option linter.unusedSimpArgs false
set_option linter.unusedVariables false
namespace Go.Proofs.YtmagpdblacgneaaGreat
open Go.RowKit Go.Sort

/-! Values that are clean, and small. -/
def CleanB (v : Val) : Prop := cleanV v = v ∧ (v.k ≠ 2 → v.s = ⟨#[]⟩)
theorem cl_num (n : Int) : CleanB (.num n) := ⟨by simp [cleanV, Val.num], fun _ => rfl⟩
theorem cl_null : CleanB .null := ⟨by simp [cleanV, Val.null], fun _ => rfl⟩
theorem cl_str (s : ByteArray) : CleanB (.str s) := ⟨by simp [cleanV, Val.str], fun h => absurd rfl h⟩
theorem cl_clean (v : Val) : CleanB (cleanV v) := by
  unfold cleanV
  split
  · exact cl_num _
  · split
    · exact cl_str _
    · exact cl_null
theorem cl_truth (b : Bool) : CleanB (truthV b) := cl_num _
theorem cl_reck (op : Int) (a b : Val) : CleanB (reckV op a b) := by
  unfold reckV
  split
  · cases reck op a.n b.n with
    | none => exact cl_null
    | some n => exact cl_num _
  · exact cl_null
theorem cl_not (a : Val) : CleanB (notV a) := by unfold notV; split; exact cl_truth _; exact cl_null
theorem cl_test (op : Int) (a b : Val) : CleanB (testV op a b) := by
  unfold testV
  split
  · exact cl_null
  · unfold testR
    cases testB op (ordV a b) with
    | none => exact cl_null
    | some t => exact cl_truth _
theorem cl_cat (a b : Val) : CleanB (catV a b) := by unfold catV; split; exact cl_str _; exact cl_null
theorem cl_both (op : Int) (a b : Val) : CleanB (bothV op a b) := by
  unfold bothV
  repeat' split
  all_goals first | exact cl_truth _ | exact cl_null
theorem cl_one (op : Int) (x : Val) : CleanB (oneV op x) := by
  unfold oneV
  repeat' split
  all_goals first | exact cl_reck _ _ _ | exact cl_not _ | exact cl_num _ | exact cl_null
theorem cl_two (op : Int) (x y : Val) : CleanB (twoV op x y) := by
  unfold twoV
  repeat' split
  all_goals first | exact cl_reck _ _ _ | exact cl_test _ _ _ | exact cl_cat _ _ | exact cl_both _ _ _
mutual
theorem eval_clean (row : List Val) : ∀ (e : Ex), CleanB (evalE row e)
  | .mk op n v l => by
    have hl := evalL_clean row l
    rw [evalE]
    cases hx : evalL row l with
    | nil =>
      simp only [nodeV]
      repeat' split
      all_goals first | exact cl_clean _ | exact cl_null
    | cons x r =>
      rw [hx] at hl
      cases r with
      | nil => exact cl_one op x
      | cons y r =>
        cases r with
        | nil => exact cl_two op x y
        | cons z r =>
          simp only [nodeV]
          split
          · exact hl y (by simp)
          · exact hl z (by simp)
theorem evalL_clean (row : List Val) : ∀ (l : List Ex), ∀ v ∈ evalL row l, CleanB v
  | [], v, h => by rw [evalL] at h; cases h
  | e :: l, v, h => by
    rw [evalL] at h
    rcases List.mem_cons.1 h with rfl | h
    · exact eval_clean row e
    · exact evalL_clean row l v h
end
def Small (v : Val) : Prop := v.s.size ≤ 1000
theorem sm_num (n : Int) : Small (.num n) := Nat.zero_le _
theorem sm_null : Small .null := Nat.zero_le _
theorem sm_of {v : Val} (h : CleanB v) (hk : v.k ≠ 2) : Small v := by unfold Small; rw [h.2 hk]; exact Nat.zero_le _
theorem sm_reck (op : Int) (a b : Val) : Small (reckV op a b) := by
  unfold reckV
  split
  · cases reck op a.n b.n with
    | none => exact sm_null
    | some n => exact sm_num _
  · exact sm_null
theorem sm_not (a : Val) : Small (notV a) := by unfold notV; split; exact sm_num _; exact sm_null
theorem sm_test (op : Int) (a b : Val) : Small (testV op a b) := by
  unfold testV
  split
  · exact sm_null
  · unfold testR
    cases testB op (ordV a b) with
    | none => exact sm_null
    | some t => exact sm_num _
theorem sm_cat (a b : Val) : Small (catV a b) := by
  unfold catV
  split
  · rename_i h
    simp only [Bool.and_eq_true, decide_eq_true_eq] at h
    show (a.s ++ b.s).size ≤ 1000
    rw [ByteArray.size_append]
    exact h.2
  · exact sm_null
theorem sm_both (op : Int) (a b : Val) : Small (bothV op a b) := by
  unfold bothV
  repeat' split
  all_goals first | exact sm_num _ | exact sm_null
theorem sm_one (op : Int) (x : Val) : Small (oneV op x) := by
  unfold oneV
  repeat' split
  all_goals first | exact sm_reck _ _ _ | exact sm_not _ | exact sm_num _ | exact sm_null
theorem sm_two (op : Int) (x y : Val) : Small (twoV op x y) := by
  unfold twoV
  repeat' split
  all_goals first | exact sm_reck _ _ _ | exact sm_test _ _ _ | exact sm_cat _ _ | exact sm_both _ _ _
mutual
theorem eval_small : ∀ (e : Ex), goodE e → Small (evalE [] e)
  | .mk op n v l, hg => by
    have hl := evalL_small l (good_open hg).2
    have hn := no_args hg
    have hs := (good_open hg).1
    rw [evalE]
    cases l with
    | nil =>
      rw [evalL]
      simp only [nodeV]
      split
      · rename_i h2
        have h2 : op = 2 := by simpa using h2
        subst h2
        unfold soundE at hs
        simp only [Bool.and_eq_true] at hs
        have h3 := hs.2
        have h4 : (if (2 : Int) == 1 then decide (0 ≤ n) else if (2 : Int) == 2 then decide ((cleanV v).s.size ≤ 1000) else true) = true := h3
        rw [if_neg (by decide), if_pos (by decide)] at h4
        show (cleanV v).s.size ≤ 1000
        exact of_decide_eq_true h4
      · rename_i h2
        rcases hn rfl with ⟨h1, h0⟩ | h1
        · have h0 : 0 ≤ n := h0
          rw [if_pos (by simpa using h0)]
          exact sm_null
        · exact absurd (show op = 2 from h1) (by simpa using h2)
    | cons x l =>
      cases l with
      | nil => rw [evalL, evalL]; exact sm_one op _
      | cons y l =>
        cases l with
        | nil => rw [evalL, evalL, evalL]; exact sm_two op _ _
        | cons z l =>
          rw [evalL, evalL, evalL] at hl ⊢
          simp only [nodeV]
          split
          · exact hl _ (by simp)
          · exact hl _ (by simp)
theorem evalL_small : ∀ (l : List Ex), goodL l → ∀ v ∈ evalL [] l, Small v
  | [], _, v, h => by rw [evalL] at h; cases h
  | e :: l, hg, v, h => by
    rw [goodL] at hg
    rw [evalL] at h
    rcases List.mem_cons.1 h with rfl | h
    · exact eval_small e hg.1
    · exact evalL_small l hg.2 v h
end
/-! How high an expression is; what measured tells. -/
mutual
def Ex.high : Ex → Nat
  | .mk _ _ _ l => Ex.highs l + 1
def Ex.highs : List Ex → Nat
  | [] => 0
  | e :: l => max e.high (Ex.highs l)
end
mutual
theorem meas_size : ∀ (e : Ex) (N H : Int), goodE e → (e.size : Int) ≤ N → (e.high : Int) ≤ H → measE soundE e N H = ((e.size : Int), (e.high : Int), true)
  | .mk op n v l, N, H, hg, h1, h2 => by
    rw [Ex.size] at h1
    rw [Ex.high] at h2
    obtain ⟨hs, hl⟩ := good_open hg
    have hs : soundE (.mk op n v l) = true := hs
    rw [measE, hs, if_neg (by simp only [Bool.or_eq_true, decide_eq_true_eq, Bool.not_true, not_or]; exact ⟨⟨by omega, by omega⟩, by simp⟩)]
    rw [measL_size l N H 1 0 hl (by omega) (by omega) (by omega) (by omega)]
    simp only [Prod.mk.injEq, and_true]
    rw [Ex.size, Ex.high]
    constructor
    · omega
    · omega
theorem measL_size : ∀ (l : List Ex) (N H c h : Int), goodL l → 0 ≤ c → 0 ≤ h → c + (Ex.sizes l : Int) ≤ N → (Ex.highs l : Int) ≤ H - 1 → measL soundE l N H c h = some (c + (Ex.sizes l : Int), max h (Ex.highs l : Int))
  | [], N, H, c, h, _, _, hh, _, _ => by
    rw [measL, Ex.sizes, Ex.highs]
    simp only [Option.some.injEq, Prod.mk.injEq]
    constructor <;> omega
  | e :: l, N, H, c, h, hg, hc, hh, h1, h2 => by
    rw [goodL] at hg
    rw [Ex.sizes] at h1
    rw [Ex.highs] at h2
    rw [measL, meas_size e (N - c) (H - 1) hg.1 (by omega) (by omega)]
    simp only [if_true]
    rw [measL_size l N H _ _ hg.2 (by omega) (by omega) (by omega) (by omega), Ex.sizes, Ex.highs]
    simp only [Option.some.injEq, Prod.mk.injEq]
    constructor <;> omega
end
mutual
theorem meas_eq : ∀ (e : Ex) (N H : Int) {c h : Int}, measE soundE e N H = (c, h, true) → c = (e.size : Int) ∧ h = (e.high : Int)
  | .mk op n v l, N, H, c, h, he => by
    rw [measE] at he
    split at he
    · injection he with _ he; injection he with _ he; cases he
    · cases hm : measL soundE l N H 1 0 with
      | none => rw [hm] at he; simp only at he; injection he with _ he; injection he with _ he; cases he
      | some q =>
        rw [hm] at he
        simp only at he
        injection he with e1 e2
        injection e2 with e2 _
        have := measL_eq l N H 1 0 (c' := q.1) (h' := q.2) hm
        rw [Ex.size, Ex.high]
        omega
theorem measL_eq : ∀ (l : List Ex) (N H c h : Int) {c' h' : Int}, measL soundE l N H c h = some (c', h') → c' = c + (Ex.sizes l : Int) ∧ (0 ≤ h → h' = max h (Ex.highs l : Int))
  | [], N, H, c, h, c', h', he => by
    rw [measL] at he
    injection he with he; injection he with e1 e2
    rw [Ex.sizes, Ex.highs]
    constructor
    · omega
    · intro h0; omega
  | e :: l, N, H, c, h, c', h', he => by
    rw [measL] at he
    split at he
    · rename_i hok
      obtain ⟨c2, h2', ok, hm⟩ : ∃ c2 h2 ok, measE soundE e (N - c) (H - 1) = (c2, h2, ok) := ⟨_, _, _, rfl⟩
      rw [hm] at he hok
      simp only at he hok
      subst hok
      have g := meas_eq e (N - c) (H - 1) hm
      have := measL_eq l N H _ _ he
      rw [Ex.sizes, Ex.highs]
      constructor
      · omega
      · intro h0; have := this.2 (by omega); omega
    · cases he
end
theorem built_size {e : Ex} (h : builtE e = true) : measE soundE e 400 40 = ((e.size : Int), (e.high : Int), true) := by
  obtain ⟨c, h2, ok, hm⟩ : ∃ c h2 ok, measE soundE e 400 40 = (c, h2, ok) := ⟨_, _, _, rfl⟩
  unfold builtE at h
  rw [hm] at h
  simp only at h
  subst h
  obtain ⟨h1, h2⟩ := meas_eq e 400 40 hm
  rw [hm, h1, h2]
theorem built_of {e : Ex} (hg : goodE e) (h1 : e.size ≤ 400) (h2 : e.high ≤ 40) : builtE e = true := by
  unfold builtE
  rw [meas_size e 400 40 hg (by omega) (by omega)]
theorem built_bounds {e : Ex} (h : builtE e = true) : e.size ≤ 400 ∧ e.high ≤ 40 := by
  have := meas_le soundE e 400 40 (built_size h)
  omega
end Go.Proofs.YtmagpdblacgneaaGreat

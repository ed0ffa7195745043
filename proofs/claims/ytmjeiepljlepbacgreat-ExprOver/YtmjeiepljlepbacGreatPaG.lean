import Derived.Test.YtmjeiepljlepbacGreatPaF
set_option linter.unusedSimpArgs false
set_option linter.unusedVariables false
namespace Go.Proofs.YtmjeiepljlepbacGreat
open Go.RowKit Go.Sort

/-- Every node will do. -/
def allE (_ : Ex) : Bool := true
theorem alltrue_any (e : Ex) (a : Option Addr) (c : Nat) (w : World) : Calls Tryz.prog 114 #[e.val a c] w fun r w' => r = .returned (.bool (allE e)) ∧ Below w.heap.size w w' := by
  rw [Ex.val_open]
  go_enter Tryz.func114, Tryz.ntmps114
  go_wp2
  go_ret
  exact ⟨rfl, by first | exact Below.refl _ _ | exact below_alloc (Below.refl _ _) _⟩
theorem measuredA_step (e : Ex) (hf : e.fin) (N H : Int) (a : Option Addr) (c : Nat) (w : World) (hN0 : 0 ≤ N) (hN : N ≤ 40000000) (hH0 : 0 ≤ H) (hH : H ≤ 200000) (ha : Ex.all w a e.args)
    (IH : ∀ (i : Nat) (x : Ex), e.args[i]? = some x → ∀ (N' H' : Int) (a' : Option Addr) (c' : Nat) (W : World), 0 ≤ N' → N' ≤ 40000000 → 0 ≤ H' → H' ≤ 200000 → Ex.all W a' x.args → Calls Tryz.prog 61 #[x.val a' c', .int .i64 N', .int .i64 H', .func (.func 114) #[] #[]] W fun r w' => r = M3 (measE allE x N' H') ∧ Below W.heap.size W w') :
    Calls Tryz.prog 61 #[e.val a c, .int .i64 N, .int .i64 H, .func (.func 114) #[] #[]] w fun r w' => r = M3 (measE allE e N H) ∧ Below w.heap.size w w' := by
  obtain ⟨⟨hl, hv, _, _⟩, _⟩ := Ex.fin_open hf
  have HS := hide (fun W => alltrue_any e a c W)
  obtain ⟨R, hR⟩ : ∃ R, R = measE allE e N H := ⟨_, rfl⟩
  have HR : Hid (R = if decide (N < 1) || decide (H < 1) || !allE e then (0, 0, false) else match measL allE e.args N H 1 0 with
    | some (c, h) => (c, h + 1, true)
    | none => (0, 0, false)) := by rw [hR]; exact measE_eq allE e N H
  rw [← hR]
  have H6 : Hid (Six (w.alloc (.cells #[.int .i64 e.op, .int .i64 e.n, .int .i64 e.v.k, .int .i64 e.v.n, .string e.v.s, .slice a e.args.length c] 59)) w.heap.size e a c) := Six.new w e a c
  have HB := hide (below_alloc (Below.refl _ w) (.cells #[.int .i64 e.op, .int .i64 e.n, .int .i64 e.v.k, .int .i64 e.v.n, .string e.v.s, .slice a e.args.length c] 59))
  have HIH := hide IH
  have HAL := hide ha
  rw [Ex.val_open] at HS ⊢
  clear hR ha IH
  by_cases h1 : N < 1
  · go_enter Tryz.func61, Tryz.ntmps61
    go_wp2
    refine bodyPost_ret (v := .tuple #[.int .i64 0, .int .i64 0, .bool false]) (by simp [results, Tryz.results61, go_sem]) rfl ⟨by rw [unhide HR]; simp [h1], unhide HB⟩
  by_cases h2 : H < 1
  · go_enter Tryz.func61, Tryz.ntmps61
    go_wp2
    refine bodyPost_ret (v := .tuple #[.int .i64 0, .int .i64 0, .bool false]) (by simp [results, Tryz.results61, go_sem]) rfl ⟨by rw [unhide HR]; simp [h2], unhide HB⟩
  obtain ⟨sb, hsb⟩ : ∃ sb, sb = allE e := ⟨_, rfl⟩
  rw [← hsb] at HS HR
  have n1 : decide (N < 1) = false := by simpa using h1
  have n2 : decide (H < 1) = false := by simpa using h2
  rw [n1, n2] at HR
  cases sb with
  | false =>
    clear hsb n1 n2
    go_enter Tryz.func61, Tryz.ntmps61
    go_wp2_with (go_at_call 114; refine (unhide HS _).mono ?_; rintro e' w1 ⟨rfl, hb1⟩)
    refine bodyPost_ret (v := .tuple #[.int .i64 0, .int .i64 0, .bool false]) (by simp [results, Tryz.results61, go_sem]) rfl ⟨by rw [unhide HR]; rfl, below_one hb1⟩
  | true =>
    clear hsb n1 n2
    have HR2 : Hid (R = match measL allE e.args N H 1 0 with
      | some (c, h) => (c, h + 1, true)
      | none => (0, 0, false)) := by have := unhide HR; show _ = _; simpa using this
    clear HR
    go_enter Tryz.func61, Tryz.ntmps61
    go_wp2_with (go_at_call 114; refine (unhide HS _).mono ?_; rintro e' w1 ⟨rfl, hb1⟩; obtain ⟨c0, c1, c2, c3, c4, c5⟩ := (unhide H6).later hb1)
    have HB1 := hide (below_step (unhide HB) hb1)
    have HAL1 := hide (Ex.all_later _ (unhide HAL) (unhide HB1))
    clear hb1 HS
    go_loopw [11, 12, 33] (fun s11 s12 i wr => ∃ (k : Nat) (cc hh : Int), k ≤ e.args.length ∧ i = .int .i64 (k : Int) ∧ s11 = .int .i64 cc ∧ s12 = .int .i64 hh ∧ 1 ≤ cc ∧ cc ≤ N ∧ 0 ≤ hh ∧ hh ≤ H - 1 ∧ Hid (measL allE e.args N H 1 0 = measL allE (e.args.drop k) N H cc hh) ∧ Below w1.heap.size w1 wr) (fun _ _ i _ => e.args.length - (intOf i).toNat)
    case atStart => exact ⟨0, 1, 0, Nat.zero_le _, rfl, rfl, rfl, by omega, by omega, by omega, by omega, rfl, Below.refl _ _⟩
    case round =>
      obtain ⟨k, cc, hh, hk, rfl, rfl, rfl, g1, g2, g3, g4, HM, hb⟩ := hrel
      by_cases hlt : k < e.args.length
      · have h9 : (k : Int) < (e.args.length : Int) := by omega
        obtain ⟨x, hx⟩ : ∃ x, e.args[k]? = some x := ⟨_, List.getElem?_eq_getElem hlt⟩
        have hd : e.args.drop k = x :: e.args.drop (k + 1) := by
          obtain ⟨q1, q2⟩ := List.getElem?_eq_some_iff.1 hx
          rw [List.drop_eq_getElem_cons q1, q2]
        obtain ⟨vb, vo, ea, hat⟩ := Ex.all_get (Ex.all_later _ (unhide HAL1) hb) hx
        obtain ⟨a', c', ⟨d0, d1, d2, d3, d4, d5⟩, hal⟩ := Ex.at_open hat
        have HC := hide (unhide HIH k x hx (N - cc) (H - 1) a' c' (wr.alloc (.cells #[.int .i64 x.op, .int .i64 x.n, .int .i64 x.v.k, .int .i64 x.v.n, .string x.v.s, .slice a' x.args.length c'] 59)) (by omega) (by omega) (by omega) (by omega) (Ex.all_later _ hal (below_alloc (Below.refl _ _) _)))
        rw [Ex.val_open] at HC
        rw [hd, measL] at HM
        obtain ⟨q, hq⟩ : ∃ q, measE allE x (N - cc) (H - 1) = q := ⟨_, rfl⟩
        rw [hq] at HC HM
        have HQ := hide hq
        obtain ⟨c2', h2', ok⟩ := q
        have HB2 := hide (below_alloc hb (.cells #[.int .i64 x.op, .int .i64 x.n, .int .i64 x.v.k, .int .i64 x.v.n, .string x.v.s, .slice a' x.args.length c'] 59))
        subst ea
        clear hx hd hat hal hq hb
        cases ok with
        | false =>
          have HE : Hid (R = (0, 0, false)) := by have h1 := unhide HM; have h2 := unhide HR2; rw [h1] at h2; show _ = _; simpa using h2
          clear HM HQ
          go_wp2_with (go_at_call 61; refine (unhide HC).mono ?_; rintro r w3 ⟨rfl, hb3⟩)
          refine bodyPost_ret (v := .tuple #[.int .i64 0, .int .i64 0, .bool false]) (by simp [results, Tryz.results61, go_sem]) rfl ⟨by rw [unhide HE], below_step (unhide HB1) (below_step (unhide HB2) hb3)⟩
        | true =>
          obtain ⟨m1, m2, m3, m4⟩ := meas_le allE x (N - cc) (H - 1) (unhide HQ)
          have HM2 : Hid (measL allE e.args N H 1 0 = measL allE (e.args.drop (k + 1)) N H (cc + c2') (max hh h2')) := by have := unhide HM; show _ = _; simpa using this
          clear HM HQ
          go_wp2_with (go_at_call 61; refine (unhide HC).mono ?_; rintro r w3 ⟨rfl, hb3⟩)
          refine ⟨⟨k + 1, cc + c2', max hh h2', by omega, by go_num, rfl, by rw [max_if], by omega, by omega, by omega, by omega, HM2, below_step (unhide HB2) hb3⟩, by simp [intOf]; omega⟩
      · have h9 : ¬ (k : Int) < (e.args.length : Int) := by omega
        have HE : Hid (R = (cc, hh + 1, true)) := by
          have h1 := unhide HM
          have h2 := unhide HR2
          rw [List.drop_eq_nil_of_le (by omega), measL] at h1
          rw [h1] at h2
          exact h2
        have HBE := hide (below_step (unhide HB1) hb)
        clear HM HR2 hb
        go_wp2
        refine bodyPost_ret (v := .tuple #[.int .i64 cc, .int .i64 (hh + 1), .bool true]) (by simp [results, Tryz.results61, go_sem]) rfl ⟨by rw [unhide HE], unhide HBE⟩
theorem measuredA_all : ∀ (k : Nat) (e : Ex), e.size ≤ k → e.fin → ∀ (N H : Int) (a : Option Addr) (c : Nat) (w : World), 0 ≤ N → N ≤ 40000000 → 0 ≤ H → H ≤ 200000 → Ex.all w a e.args →
    Calls Tryz.prog 61 #[e.val a c, .int .i64 N, .int .i64 H, .func (.func 114) #[] #[]] w fun r w' => r = M3 (measE allE e N H) ∧ Below w.heap.size w w'
  | 0, e, hs, _, _, _, _, _, _, _, _, _, _, _ => by rw [Ex.size_mk] at hs; omega
  | k + 1, e, hs, hf, N, H, a, c, w, h1, h2, h3, h4, ha => measuredA_step e hf N H a c w h1 h2 h3 h4 ha fun i x hx N' H' a' c' W g1 g2 g3 g4 hW =>
    measuredA_all k x (by have := Ex.size_arg hx; omega) (Ex.fin_arg hf hx) N' H' a' c' W g1 g2 g3 g4 hW
set_option maxHeartbeats 400000 in
theorem made_all {F : Value} {g : Ex → Ex} {P Q : Ex → Prop} (hP : ∀ x, Q x → P (nodeG g x)) (hQ : ∀ (x y : Ex) (i : Nat), Q x → x.args[i]? = some y → Q y) : ∀ (k : Nat) (e : Ex), e.size ≤ k → e.short → Q e → ∀ (a : Option Addr) (c : Nat) (w : World), Ex.all w a e.args → By w F g P →
    Calls Tryz.prog 82 #[e.val a c, F] w fun r w' => ∃ a2 c2, r = .returned ((madeE g e).val a2 c2) ∧ ExK w.heap.size w' a2 (madeE g e).args ∧ Below w.heap.size w w'
  | 0, e, hs, _, _, _, _, _, _, _ => by rw [Ex.size_mk] at hs; omega
  | k + 1, e, hs, hsh, hq, a, c, w, ha, hby => made_step e hsh F g P a c w ha hby (hP e hq) fun i x hx a' c' W hW hbW =>
    made_all hP hQ k x (by have := Ex.size_arg hx; omega) (Ex.short_arg hsh hx) (hQ e x i hq hx) a' c' W hW hbW
theorem same_any (e : Ex) (a : Option Addr) (c : Nat) (w : World) : Calls Tryz.prog 115 #[e.val a c] w fun r w' => r = .returned (e.val a c) ∧ Below w.heap.size w w' := by
  rw [Ex.val_open]
  go_enter Tryz.func115, Tryz.ntmps115
  go_wp2
  refine bodyPost_ret (v := e.val a c) (by simp [results, Tryz.results115, go_sem, Ex.val]) rfl ⟨rfl, below_alloc (below_alloc (Below.refl _ _) _) _⟩
theorem entSame : Enters 115 := fun args w => by kernel_rfl
set_option maxRecDepth 100000 in
theorem by_same (W : World) : By W (.func (.func 115) #[] #[]) id (fun _ => True) :=
  ⟨115, #[], rfl, entSame, fun W' lo e a c _ _ _ hK => (same_any e a c W').mono fun r w' ⟨h1, h2⟩ => ⟨a, c, h1, hK.on (Kept.of_below _ _ h2), h2⟩⟩
/-- A copy, where it isn't too large for one. -/
def copyT (e : Ex) : Ex := if (measE allE e 33554432 131072).2.2 then copyE e else e
/-- What lies in elder blocks, or in those from w on but N, whatever becomes of those. -/
def ExL (w : World) (N : List Nat) (w' : World) (a : Option Addr) (l : List Ex) : Prop := ∀ W', Below w.heap.size w W' → Kept w.heap.size N w' W' → Ex.all W' a l
set_option maxHeartbeats 400000 in
set_option maxRecDepth 100000 in
/-- copied (16). -/
theorem copied_any (e : Ex) (hf : e.fin) (a : Option Addr) (c : Nat) (w : World) (ha : Ex.all w a e.args) :
    Calls Tryz.prog 78 #[e.val a c] w fun r w' => ∃ a2 c2, r = .returned ((copyT e).val a2 c2) ∧ ((measE allE e 33554432 131072).2.2 = true → ExK w.heap.size w' a2 (copyT e).args) ∧ ExL w [] w' a2 (copyT e).args ∧ Below w.heap.size w w' := by
  have HM := hide (fun (W : World) (hW : Below w.heap.size w W) => measuredA_all e.size e (Nat.le_refl _) hf 33554432 131072 a c W (by omega) (by omega) (by omega) (by omega) (Ex.all_later _ ha hW))
  have HMD : Hid ((measE allE e 33554432 131072).2.2 = true → ∀ (W : World), Below w.heap.size w W → Calls Tryz.prog 82 #[e.val a c, .func (.func 115) #[] #[]] W fun r w' => ∃ a2 c2, r = .returned ((copyE e).val a2 c2) ∧ ExK W.heap.size w' a2 (copyE e).args ∧ Below W.heap.size W w') := fun hm W hW => by
    have h := made_all (F := .func (.func 115) #[] #[]) (g := id) (P := fun _ => True) (Q := fun _ => True) (fun _ _ => trivial) (fun _ _ _ _ _ => trivial) e.size e (Nat.le_refl _) (meas_short allE e _ _ (by omega) hm) trivial a c W (Ex.all_later _ ha hW) (by_same W)
    rw [made_copy] at h
    exact h
  have HA := hide (fun (W : World) (hW : Below w.heap.size w W) => Ex.all_later _ ha hW)
  have HB0 : Hid (Below w.heap.size w ((w.alloc (.cells #[.int .i64 e.op, .int .i64 e.n, .int .i64 e.v.k, .int .i64 e.v.n, .string e.v.s, .slice a e.args.length c] 59)).alloc (.cells #[.int .i64 0, .int .i64 0, .int .i64 0, .int .i64 0, .string ⟨#[]⟩, .slice none 0 0] 59))) := below_alloc (below_alloc (Below.refl _ w) _) _
  have H6 : Hid (Six ((w.alloc (.cells #[.int .i64 e.op, .int .i64 e.n, .int .i64 e.v.k, .int .i64 e.v.n, .string e.v.s, .slice a e.args.length c] 59)).alloc (.cells #[.int .i64 0, .int .i64 0, .int .i64 0, .int .i64 0, .string ⟨#[]⟩, .slice none 0 0] 59)) w.heap.size e a c) := (Six.new w e a c).later (below_alloc (Below.refl _ _) _)
  have HZ : Hid (Box6 ((w.alloc (.cells #[.int .i64 e.op, .int .i64 e.n, .int .i64 e.v.k, .int .i64 e.v.n, .string e.v.s, .slice a e.args.length c] 59)).alloc (.cells #[.int .i64 0, .int .i64 0, .int .i64 0, .int .i64 0, .string ⟨#[]⟩, .slice none 0 0] 59)) (w.heap.size + 1) zeroE none 0) := by
    have h := Box6.new (w.alloc (.cells #[.int .i64 e.op, .int .i64 e.n, .int .i64 e.v.k, .int .i64 e.v.n, .string e.v.s, .slice a e.args.length c] 59)) zeroE none 0
    rw [show (w.alloc (.cells #[.int .i64 e.op, .int .i64 e.n, .int .i64 e.v.k, .int .i64 e.v.n, .string e.v.s, .slice a e.args.length c] 59)).heap.size = w.heap.size + 1 by simp [go_sem]] at h
    exact h
  have HS : Hid (((w.alloc (.cells #[.int .i64 e.op, .int .i64 e.n, .int .i64 e.v.k, .int .i64 e.v.n, .string e.v.s, .slice a e.args.length c] 59)).alloc (.cells #[.int .i64 0, .int .i64 0, .int .i64 0, .int .i64 0, .string ⟨#[]⟩, .slice none 0 0] 59)).heap.size = w.heap.size + 2) := by
    show _ = _
    simp [go_sem]
  clear ha
  unfold copyT
  obtain ⟨q, hq⟩ : ∃ q, measE allE e 33554432 131072 = q := ⟨_, rfl⟩
  rw [hq] at HM HMD ⊢
  obtain ⟨c2, h2, ok⟩ := q
  clear hq
  rw [Ex.val_open] at HM HMD ⊢
  cases ok with
  | false =>
    clear HMD
    simp only [Bool.false_eq_true, if_false]
    go_enter Tryz.func78, Tryz.ntmps78
    go_wp2_with (go_at_call 61; refine (unhide HM _ (unhide HB0)).mono ?_; rintro r w1 ⟨rfl, hb1⟩; obtain ⟨b0, b1, b2, b3, b4, b5⟩ := (unhide H6).later hb1; obtain ⟨⟨z0, z1, z2, z3, z4, z5⟩, f0, f1, f2, f3, f4, f5⟩ := (unhide HZ).later hb1)
    refine bodyPost_ret (v := e.val a c) (by simp [results, Tryz.results78, go_sem, Ex.val, *]) rfl ⟨a, c, rfl, fun h => absurd h (by simp), fun W' hW _ => unhide HA W' hW, ?_⟩
    exact put6 (below_step (unhide HB0) hb1) (by omega) _ _ _ _ _ _
  | true =>
    have HM2 := hide (unhide HMD rfl)
    clear HMD
    simp only [if_true]
    go_enter Tryz.func78, Tryz.ntmps78
    go_wp2_with (first
      | (go_at_call 61; refine (unhide HM _ (unhide HB0)).mono ?_; rintro r w1 ⟨rfl, hb1⟩; have hB1 := below_step (unhide HB0) hb1; obtain ⟨b0, b1, b2, b3, b4, b5⟩ := (unhide H6).later hb1)
      | (go_at_call 82; refine (unhide HM2 _ hB1).mono ?_; rintro r w2 ⟨a2, c2, rfl, hK2, hb2⟩; have HK2 := hide hK2; clear hK2; have hs1 := (unhide HS); have hs2 := hb1.size; obtain ⟨⟨z0, z1, z2, z3, z4, z5⟩, f0, f1, f2, f3, f4, f5⟩ := (unhide HZ).later (below_step hb1 hb2); rw [Ex.val_open]))
    refine bodyPost_ret (v := (copyE e).val a2 c2) (by simp [results, Tryz.results78, go_sem, Ex.val, *]) rfl ⟨a2, c2, rfl, fun _ => ?_, fun W' _ hW => ?_, ?_⟩
    · refine (((unhide HK2).on ((((((Kept.of_low _ _ _ _ ?_).trans (Kept.of_low _ _ _ _ ?_)).trans (Kept.of_low _ _ _ _ ?_)).trans (Kept.of_low _ _ _ _ ?_)).trans (Kept.of_low _ _ _ _ ?_)).trans (Kept.of_low _ _ _ _ ?_))).more (by omega)) <;> omega
    · refine (((unhide HK2).on ((((((Kept.of_low _ _ _ _ ?_).trans (Kept.of_low _ _ _ _ ?_)).trans (Kept.of_low _ _ _ _ ?_)).trans (Kept.of_low _ _ _ _ ?_)).trans (Kept.of_low _ _ _ _ ?_)).trans (Kept.of_low _ _ _ _ ?_))).more (by omega)) W' hW <;> omega
    · exact put6 (below_step hB1 hb2) (by omega) _ _ _ _ _ _
end Go.Proofs.YtmjeiepljlepbacGreat

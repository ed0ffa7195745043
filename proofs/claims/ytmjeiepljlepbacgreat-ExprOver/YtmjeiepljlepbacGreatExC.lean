import Derived.Test.YtmjeiepljlepbacGreatExB
set_option linter.unusedSimpArgs false
set_option linter.unusedVariables false
namespace Go.Proofs.YtmjeiepljlepbacGreat
open Go.RowKit Go.Sort

mutual
/-- How large an expression is, by a budget. -/
def measE (p : Ex → Bool) : Ex → Int → Int → Int × Int × Bool
  | .mk op n v l, N, H => if decide (N < 1) || decide (H < 1) || !p (.mk op n v l) then (0, 0, false) else match measL p l N H 1 0 with
    | some (c, h) => (c, h + 1, true)
    | none => (0, 0, false)
def measL (p : Ex → Bool) : List Ex → Int → Int → Int → Int → Option (Int × Int)
  | [], _, _, c, h => some (c, h)
  | e :: l, N, H, c, h => if (measE p e (N - c) (H - 1)).2.2 then measL p l N H (c + (measE p e (N - c) (H - 1)).1) (max h (measE p e (N - c) (H - 1)).2.1) else none
end
mutual
theorem meas_le (p : Ex → Bool) : ∀ (e : Ex) (N H : Int) {c h : Int}, measE p e N H = (c, h, true) → 1 ≤ c ∧ c ≤ N ∧ 1 ≤ h ∧ h ≤ H
  | .mk op n v l, N, H, c, h, he => by
    rw [measE] at he
    split at he
    · injection he with _ he; injection he with _ he; cases he
    · rename_i hc
      simp only [Bool.or_eq_true, decide_eq_true_eq, not_or] at hc
      cases hm : measL p l N H 1 0 with
      | none => rw [hm] at he; simp only at he; injection he with _ he; injection he with _ he; cases he
      | some q =>
        rw [hm] at he
        simp only at he
        injection he with e1 e2
        injection e2 with e2 _
        have := measL_le p l N H 1 0 (c' := q.1) (h' := q.2) (by omega) (by omega) (by omega) (by omega) hm
        omega
theorem measL_le (p : Ex → Bool) : ∀ (l : List Ex) (N H c h : Int) {c' h' : Int}, 1 ≤ c → c ≤ N → 0 ≤ h → h ≤ H - 1 → measL p l N H c h = some (c', h') → c ≤ c' ∧ c' ≤ N ∧ h ≤ h' ∧ h' ≤ H - 1
  | [], N, H, c, h, c', h', h1, h2, h3, h4, he => by
    rw [measL] at he
    injection he with he; injection he with e1 e2
    omega
  | e :: l, N, H, c, h, c', h', h1, h2, h3, h4, he => by
    rw [measL] at he
    split at he
    · rename_i hok
      obtain ⟨c2, h2', ok, hm⟩ : ∃ c2 h2 ok, measE p e (N - c) (H - 1) = (c2, h2, ok) := ⟨_, _, _, rfl⟩
      rw [hm] at he hok
      simp only at he hok
      subst hok
      have g := meas_le p e (N - c) (H - 1) hm
      have := measL_le p l N H (c + c2) (max h h2') (by omega) (by omega) (by omega) (by omega) he
      omega
    · cases he
end
theorem measE_eq (p : Ex → Bool) (e : Ex) (N H : Int) : measE p e N H = if decide (N < 1) || decide (H < 1) || !p e then (0, 0, false) else match measL p e.args N H 1 0 with
    | some (c, h) => (c, h + 1, true)
    | none => (0, 0, false) := by cases e; rw [measE]; rfl
/-- An expression that is built. -/
def builtE (e : Ex) : Bool := (measE soundE e 400 40).2.2
end Go.Proofs.YtmjeiepljlepbacGreat
set_option linter.unusedSimpArgs false
set_option linter.unusedVariables false
namespace Go.Proofs.YtmjeiepljlepbacGreat
open Go.RowKit Go.Sort

mutual
/-- Nothing in it is too great for the machine. -/
def Ex.fin : Ex → Prop
  | .mk op n v l => (l.length ≤ 140737488355328 ∧ v.s.size ≤ 140737488355328 ∧ In64 v.n ∧ In64 n) ∧ Ex.fins l
def Ex.fins : List Ex → Prop
  | [] => True
  | e :: l => e.fin ∧ Ex.fins l
end
theorem Ex.fin_open {e : Ex} (h : e.fin) : (e.args.length ≤ 140737488355328 ∧ e.v.s.size ≤ 140737488355328 ∧ In64 e.v.n ∧ In64 e.n) ∧ Ex.fins e.args := by
  cases e with
  | mk op n v l => rw [Ex.fin] at h; exact h
theorem Ex.fins_mem : ∀ {l : List Ex} {x : Ex}, Ex.fins l → x ∈ l → x.fin
  | [], _, _, h => by cases h
  | e :: l, x, hf, h => by
    rw [Ex.fins] at hf
    rcases List.mem_cons.1 h with rfl | h
    · exact hf.1
    · exact Ex.fins_mem hf.2 h
theorem Ex.fin_arg {e x : Ex} {i : Nat} (h : e.fin) (hx : e.args[i]? = some x) : x.fin := Ex.fins_mem (Ex.fin_open h).2 (List.mem_of_getElem? hx)
theorem below_one {w w' : World} {o : Obj} (h : Below (w.alloc o).heap.size (w.alloc o) w') : Below w.heap.size w w' := below_step (below_alloc (Below.refl _ _) o) h
theorem max_if (x y : Int) : (if x < y then y else x) = max x y := by
  by_cases h : x < y
  · rw [if_pos h]; omega
  · rw [if_neg h]; omega
abbrev M3 (m : Int × Int × Bool) : Ending := .returned (.tuple #[.int .i64 m.1, .int .i64 m.2.1, .bool m.2.2])
set_option maxHeartbeats 2000000 in
set_option maxRecDepth 100000 in
theorem measured_step (e : Ex) (hf : e.fin) (N H : Int) (a : Option Addr) (c : Nat) (w : World) (hN0 : 0 ≤ N) (hN : N ≤ 40000000) (hH0 : 0 ≤ H) (hH : H ≤ 200000) (ha : Ex.all w a e.args)
    (IH : ∀ (i : Nat) (x : Ex), e.args[i]? = some x → ∀ (N' H' : Int) (a' : Option Addr) (c' : Nat) (W : World), 0 ≤ N' → N' ≤ 40000000 → 0 ≤ H' → H' ≤ 200000 → Ex.all W a' x.args → Calls Tryz.prog 61 #[x.val a' c', .int .i64 N', .int .i64 H', .func (.func 62) #[] #[]] W fun r w' => r = M3 (measE soundE x N' H') ∧ Below W.heap.size W w') :
    Calls Tryz.prog 61 #[e.val a c, .int .i64 N, .int .i64 H, .func (.func 62) #[] #[]] w fun r w' => r = M3 (measE soundE e N H) ∧ Below w.heap.size w w' := by
  obtain ⟨⟨hl, hv, _, _⟩, _⟩ := Ex.fin_open hf
  have HS := hide (fun W => sound_any e a c W hl hv)
  obtain ⟨R, hR⟩ : ∃ R, R = measE soundE e N H := ⟨_, rfl⟩
  have HR : Hid (R = if decide (N < 1) || decide (H < 1) || !soundE e then (0, 0, false) else match measL soundE e.args N H 1 0 with
    | some (c, h) => (c, h + 1, true)
    | none => (0, 0, false)) := by rw [hR]; exact measE_eq soundE e N H
  rw [← hR]
  have H6 : Hid (Six (w.alloc (.cells #[.int .i64 e.op, .int .i64 e.n, .int .i64 e.v.k, .int .i64 e.v.n, .string e.v.s, .slice a e.args.length c] 59)) w.heap.size e a c) := Six.new w e a c
  have HB := hide (below_alloc (Below.refl _ w) (.cells #[.int .i64 e.op, .int .i64 e.n, .int .i64 e.v.k, .int .i64 e.v.n, .string e.v.s, .slice a e.args.length c] 59))
  have HIH := hide IH
  have HAL := hide ha
  rw [Ex.val_open] at HS ⊢
  clear hR ha IH
  by_cases h1 : N < 1
  · go_enter Tryz.func61, Tryz.ntmps61
    go_wp2
    refine bodyPost_ret (v := .tuple #[.int .i64 0, .int .i64 0, .bool false]) (by simp [results, Tryz.results61, go_sem]) rfl ⟨by rw [unhide HR]; simp [h1], unhide HB⟩
  by_cases h2 : H < 1
  · go_enter Tryz.func61, Tryz.ntmps61
    go_wp2
    refine bodyPost_ret (v := .tuple #[.int .i64 0, .int .i64 0, .bool false]) (by simp [results, Tryz.results61, go_sem]) rfl ⟨by rw [unhide HR]; simp [h2], unhide HB⟩
  obtain ⟨sb, hsb⟩ : ∃ sb, sb = soundE e := ⟨_, rfl⟩
  rw [← hsb] at HS HR
  have n1 : decide (N < 1) = false := by simpa using h1
  have n2 : decide (H < 1) = false := by simpa using h2
  rw [n1, n2] at HR
  cases sb with
  | false =>
    clear hsb n1 n2
    go_enter Tryz.func61, Tryz.ntmps61
    go_wp2_with (go_at_call 62; refine (unhide HS _).mono ?_; rintro e' w1 ⟨rfl, hb1⟩)
    refine bodyPost_ret (v := .tuple #[.int .i64 0, .int .i64 0, .bool false]) (by simp [results, Tryz.results61, go_sem]) rfl ⟨by rw [unhide HR]; rfl, below_one hb1⟩
  | true =>
    clear hsb n1 n2
    have HR2 : Hid (R = match measL soundE e.args N H 1 0 with
      | some (c, h) => (c, h + 1, true)
      | none => (0, 0, false)) := by have := unhide HR; show _ = _; simpa using this
    clear HR
    go_enter Tryz.func61, Tryz.ntmps61
    go_wp2_with (go_at_call 62; refine (unhide HS _).mono ?_; rintro e' w1 ⟨rfl, hb1⟩; obtain ⟨c0, c1, c2, c3, c4, c5⟩ := (unhide H6).later hb1)
    have HB1 := hide (below_step (unhide HB) hb1)
    have HAL1 := hide (Ex.all_later _ (unhide HAL) (unhide HB1))
    clear hb1 HS
    go_loopw [11, 12, 33] (fun s11 s12 i wr => ∃ (k : Nat) (cc hh : Int), k ≤ e.args.length ∧ i = .int .i64 (k : Int) ∧ s11 = .int .i64 cc ∧ s12 = .int .i64 hh ∧ 1 ≤ cc ∧ cc ≤ N ∧ 0 ≤ hh ∧ hh ≤ H - 1 ∧ Hid (measL soundE e.args N H 1 0 = measL soundE (e.args.drop k) N H cc hh) ∧ Below w1.heap.size w1 wr) (fun _ _ i _ => e.args.length - (intOf i).toNat)
    case atStart => exact ⟨0, 1, 0, Nat.zero_le _, rfl, rfl, rfl, by omega, by omega, by omega, by omega, rfl, Below.refl _ _⟩
    case round =>
      obtain ⟨k, cc, hh, hk, rfl, rfl, rfl, g1, g2, g3, g4, HM, hb⟩ := hrel
      by_cases hlt : k < e.args.length
      · have h9 : (k : Int) < (e.args.length : Int) := by omega
        obtain ⟨x, hx⟩ : ∃ x, e.args[k]? = some x := ⟨_, List.getElem?_eq_getElem hlt⟩
        have hd : e.args.drop k = x :: e.args.drop (k + 1) := by
          obtain ⟨q1, q2⟩ := List.getElem?_eq_some_iff.1 hx
          rw [List.drop_eq_getElem_cons q1, q2]
        obtain ⟨vb, vo, ea, hat⟩ := Ex.all_get (Ex.all_later _ (unhide HAL1) hb) hx
        obtain ⟨a', c', ⟨d0, d1, d2, d3, d4, d5⟩, hal⟩ := Ex.at_open hat
        have HC := hide (unhide HIH k x hx (N - cc) (H - 1) a' c' (wr.alloc (.cells #[.int .i64 x.op, .int .i64 x.n, .int .i64 x.v.k, .int .i64 x.v.n, .string x.v.s, .slice a' x.args.length c'] 59)) (by omega) (by omega) (by omega) (by omega) (Ex.all_later _ hal (below_alloc (Below.refl _ _) _)))
        rw [Ex.val_open] at HC
        rw [hd, measL] at HM
        obtain ⟨q, hq⟩ : ∃ q, measE soundE x (N - cc) (H - 1) = q := ⟨_, rfl⟩
        rw [hq] at HC HM
        have HQ := hide hq
        obtain ⟨c2', h2', ok⟩ := q
        have HB2 := hide (below_alloc hb (.cells #[.int .i64 x.op, .int .i64 x.n, .int .i64 x.v.k, .int .i64 x.v.n, .string x.v.s, .slice a' x.args.length c'] 59))
        subst ea
        clear hx hd hat hal hq hb
        cases ok with
        | false =>
          have HE : Hid (R = (0, 0, false)) := by have h1 := unhide HM; have h2 := unhide HR2; rw [h1] at h2; show _ = _; simpa using h2
          clear HM HQ
          go_wp2_with (go_at_call 61; refine (unhide HC).mono ?_; rintro r w3 ⟨rfl, hb3⟩)
          refine bodyPost_ret (v := .tuple #[.int .i64 0, .int .i64 0, .bool false]) (by simp [results, Tryz.results61, go_sem]) rfl ⟨by rw [unhide HE], below_step (unhide HB1) (below_step (unhide HB2) hb3)⟩
        | true =>
          obtain ⟨m1, m2, m3, m4⟩ := meas_le soundE x (N - cc) (H - 1) (unhide HQ)
          have HM2 : Hid (measL soundE e.args N H 1 0 = measL soundE (e.args.drop (k + 1)) N H (cc + c2') (max hh h2')) := by have := unhide HM; show _ = _; simpa using this
          clear HM HQ
          go_wp2_with (go_at_call 61; refine (unhide HC).mono ?_; rintro r w3 ⟨rfl, hb3⟩)
          refine ⟨⟨k + 1, cc + c2', max hh h2', by omega, by go_num, rfl, by rw [max_if], by omega, by omega, by omega, by omega, HM2, below_step (unhide HB2) hb3⟩, by simp [intOf]; omega⟩
      · have h9 : ¬ (k : Int) < (e.args.length : Int) := by omega
        have HE : Hid (R = (cc, hh + 1, true)) := by
          have h1 := unhide HM
          have h2 := unhide HR2
          rw [List.drop_eq_nil_of_le (by omega), measL] at h1
          rw [h1] at h2
          exact h2
        have HBE := hide (below_step (unhide HB1) hb)
        clear HM HR2 hb
        go_wp2
        refine bodyPost_ret (v := .tuple #[.int .i64 cc, .int .i64 (hh + 1), .bool true]) (by simp [results, Tryz.results61, go_sem]) rfl ⟨by rw [unhide HE], unhide HBE⟩
theorem measured_all : ∀ (k : Nat) (e : Ex), e.size ≤ k → e.fin → ∀ (N H : Int) (a : Option Addr) (c : Nat) (w : World), 0 ≤ N → N ≤ 40000000 → 0 ≤ H → H ≤ 200000 → Ex.all w a e.args →
    Calls Tryz.prog 61 #[e.val a c, .int .i64 N, .int .i64 H, .func (.func 62) #[] #[]] w fun r w' => r = M3 (measE soundE e N H) ∧ Below w.heap.size w w'
  | 0, e, hs, _, _, _, _, _, _, _, _, _, _, _ => by rw [Ex.size_mk] at hs; omega
  | k + 1, e, hs, hf, N, H, a, c, w, h1, h2, h3, h4, ha => measured_step e hf N H a c w h1 h2 h3 h4 ha fun i x hx N' H' a' c' W g1 g2 g3 g4 hW =>
    measured_all k x (by have := Ex.size_arg hx; omega) (Ex.fin_arg hf hx) N' H' a' c' W g1 g2 g3 g4 hW
set_option maxHeartbeats 400000 in
theorem built_any (e : Ex) (hf : e.fin) (a : Option Addr) (c : Nat) (w : World) (ha : Ex.all w a e.args) :
    Calls Tryz.prog 64 #[e.val a c] w fun r w' => r = .returned (.bool (builtE e)) ∧ Below w.heap.size w w' := by
  have HM := hide (fun o => measured_all e.size e (Nat.le_refl _) hf 400 40 a c (w.alloc o) (by omega) (by omega) (by omega) (by omega) (Ex.all_later _ ha (below_alloc (Below.refl _ _) o)))
  obtain ⟨q, hq⟩ : ∃ q, measE soundE e 400 40 = q := ⟨_, rfl⟩
  have hb : builtE e = q.2.2 := by rw [← hq]; rfl
  rw [hb]
  rw [hq] at HM
  obtain ⟨c2, h2, ok⟩ := q
  rw [Ex.val_open] at HM ⊢
  clear hq hb ha
  go_enter Tryz.func64, Tryz.ntmps64
  go_wp2_with (go_at_call 61; refine (unhide HM _).mono ?_; rintro r w1 ⟨rfl, hb1⟩)
  go_ret
  exact ⟨rfl, below_one hb1⟩
end Go.Proofs.YtmjeiepljlepbacGreat

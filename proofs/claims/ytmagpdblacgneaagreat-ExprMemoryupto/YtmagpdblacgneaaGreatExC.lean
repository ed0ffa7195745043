import Derived.Test.YtmagpdblacgneaaGreatCellR
import Derived.Deep.OwnRows
set_option linter.unusedSimpArgs false
set_option linter.unusedVariables false
namespace Go.Proofs.YtmagpdblacgneaaGreat
open Go.RowKit Go.Sort

mutual
/-- How large an expression is, by a budget. -/
def measE (p : Ex → Bool) : Ex → Int → Int → Int × Int × Bool
  | .mk op n v l, N, H => if decide (N < 1) || decide (H < 1) || !p (.mk op n v l) then (0, 0, false) else match measL p l N H 1 0 with
    | some (c, h) => (c, h + 1, true)
    | none => (0, 0, false)
def measL (p : Ex → Bool) : List Ex → Int → Int → Int → Int → Option (Int × Int)
  | [], _, _, c, h => some (c, h)
  | e :: l, N, H, c, h => if (measE p e (N - c) (H - 1)).2.2 then measL p l N H (c + (measE p e (N - c) (H - 1)).1) (max h (measE p e (N - c) (H - 1)).2.1) else none
end
mutual
theorem meas_le (p : Ex → Bool) : ∀ (e : Ex) (N H : Int) {c h : Int}, measE p e N H = (c, h, true) → 1 ≤ c ∧ c ≤ N ∧ 1 ≤ h ∧ h ≤ H
  | .mk op n v l, N, H, c, h, he => by
    rw [measE] at he
    split at he
    · injection he with _ he; injection he with _ he; cases he
    · rename_i hc
      simp only [Bool.or_eq_true, decide_eq_true_eq, not_or] at hc
      cases hm : measL p l N H 1 0 with
      | none => rw [hm] at he; simp only at he; injection he with _ he; injection he with _ he; cases he
      | some q =>
        rw [hm] at he
        simp only at he
        injection he with e1 e2
        injection e2 with e2 _
        have := measL_le p l N H 1 0 (c' := q.1) (h' := q.2) (by omega) (by omega) (by omega) (by omega) hm
        omega
theorem measL_le (p : Ex → Bool) : ∀ (l : List Ex) (N H c h : Int) {c' h' : Int}, 1 ≤ c → c ≤ N → 0 ≤ h → h ≤ H - 1 → measL p l N H c h = some (c', h') → c ≤ c' ∧ c' ≤ N ∧ h ≤ h' ∧ h' ≤ H - 1
  | [], N, H, c, h, c', h', h1, h2, h3, h4, he => by
    rw [measL] at he
    injection he with he; injection he with e1 e2
    omega
  | e :: l, N, H, c, h, c', h', h1, h2, h3, h4, he => by
    rw [measL] at he
    split at he
    · rename_i hok
      obtain ⟨c2, h2', ok, hm⟩ : ∃ c2 h2 ok, measE p e (N - c) (H - 1) = (c2, h2, ok) := ⟨_, _, _, rfl⟩
      rw [hm] at he hok
      simp only at he hok
      subst hok
      have g := meas_le p e (N - c) (H - 1) hm
      have := measL_le p l N H (c + c2) (max h h2') (by omega) (by omega) (by omega) (by omega) he
      omega
    · cases he
end
theorem measE_eq (p : Ex → Bool) (e : Ex) (N H : Int) : measE p e N H = if decide (N < 1) || decide (H < 1) || !p e then (0, 0, false) else match measL p e.args N H 1 0 with
    | some (c, h) => (c, h + 1, true)
    | none => (0, 0, false) := by cases e; rw [measE]; rfl
/-- An expression that is built. -/
def builtE (e : Ex) : Bool := (measE soundE e 400 40).2.2
end Go.Proofs.YtmagpdblacgneaaGreat
set_option linter.unusedSimpArgs false
set_option linter.unusedVariables false
namespace Go.Proofs.YtmagpdblacgneaaGreat
open Go.RowKit Go.Sort

mutual
/-- Nothing in it is too great for the machine. -/
def Ex.fin : Ex → Prop
  | .mk op n v l => (l.length ≤ 140737488355328 ∧ v.s.size ≤ 140737488355328 ∧ In64 v.n ∧ In64 n) ∧ Ex.fins l
def Ex.fins : List Ex → Prop
  | [] => True
  | e :: l => e.fin ∧ Ex.fins l
end
theorem Ex.fin_open {e : Ex} (h : e.fin) : (e.args.length ≤ 140737488355328 ∧ e.v.s.size ≤ 140737488355328 ∧ In64 e.v.n ∧ In64 e.n) ∧ Ex.fins e.args := by
  cases e with
  | mk op n v l => rw [Ex.fin] at h; exact h
theorem Ex.fins_mem : ∀ {l : List Ex} {x : Ex}, Ex.fins l → x ∈ l → x.fin
  | [], _, _, h => by cases h
  | e :: l, x, hf, h => by
    rw [Ex.fins] at hf
    rcases List.mem_cons.1 h with rfl | h
    · exact hf.1
    · exact Ex.fins_mem hf.2 h
theorem Ex.fin_arg {e x : Ex} {i : Nat} (h : e.fin) (hx : e.args[i]? = some x) : x.fin := Ex.fins_mem (Ex.fin_open h).2 (List.mem_of_getElem? hx)
theorem below_one {w w' : World} {o : Obj} (h : Below (w.alloc o).heap.size (w.alloc o) w') : Below w.heap.size w w' := below_step (below_alloc (Below.refl _ _) o) h
theorem max_if (x y : Int) : (if x < y then y else x) = max x y := by
  by_cases h : x < y
  · rw [if_pos h]; omega
  · rw [if_neg h]; omega
abbrev M3 (m : Int × Int × Bool) : Ending := .returned (.tuple #[.int .i64 m.1, .int .i64 m.2.1, .bool m.2.2])
set_option maxHeartbeats 2000000 in
set_option maxRecDepth 100000 in
theorem measured_step (e : Ex) (hf : e.fin) (N H : Int) (a : Option Addr) (c : Nat) (w : World) (hN0 : 0 ≤ N) (hN : N ≤ 40000000) (hH0 : 0 ≤ H) (hH : H ≤ 200000) (ha : Ex.all w a e.args)
    (IH : ∀ (i : Nat) (x : Ex), e.args[i]? = some x → ∀ (N' H' : Int) (a' : Option Addr) (c' : Nat) (W : World), 0 ≤ N' → N' ≤ 40000000 → 0 ≤ H' → H' ≤ 200000 → Ex.all W a' x.args → Calls Tryz.prog 38 #[x.val a' c', .int .i64 N', .int .i64 H', .func (.func 39) #[] #[]] W fun r w' => r = M3 (measE soundE x N' H') ∧ Below W.heap.size W w') :
    Calls Tryz.prog 38 #[e.val a c, .int .i64 N, .int .i64 H, .func (.func 39) #[] #[]] w fun r w' => r = M3 (measE soundE e N H) ∧ Below w.heap.size w w' := by
  obtain ⟨⟨hl, hv, _, _⟩, _⟩ := Ex.fin_open hf
  have HS := hide (fun W => sound_any e a c W hl hv)
  obtain ⟨R, hR⟩ : ∃ R, R = measE soundE e N H := ⟨_, rfl⟩
  have HR : Hid (R = if decide (N < 1) || decide (H < 1) || !soundE e then (0, 0, false) else match measL soundE e.args N H 1 0 with
    | some (c, h) => (c, h + 1, true)
    | none => (0, 0, false)) := by rw [hR]; exact measE_eq soundE e N H
  rw [← hR]
  have H6 : Hid (Six (w.alloc (.cells #[.int .i64 e.op, .int .i64 e.n, .int .i64 e.v.k, .int .i64 e.v.n, .string e.v.s, .slice a e.args.length c] 26)) w.heap.size e a c) := Six.new w e a c
  have HB := hide (below_alloc (Below.refl _ w) (.cells #[.int .i64 e.op, .int .i64 e.n, .int .i64 e.v.k, .int .i64 e.v.n, .string e.v.s, .slice a e.args.length c] 26))
  have HIH := hide IH
  have HAL := hide ha
  rw [Ex.val_open] at HS ⊢
  clear hR ha IH
  by_cases h1 : N < 1
  · go_enter Tryz.func38, Tryz.ntmps38
    go_wp2
    refine bodyPost_ret (v := .tuple #[.int .i64 0, .int .i64 0, .bool false]) (by simp [results, Tryz.results38, go_sem]) rfl ⟨by rw [unhide HR]; simp [h1], unhide HB⟩
  by_cases h2 : H < 1
  · go_enter Tryz.func38, Tryz.ntmps38
    go_wp2
    refine bodyPost_ret (v := .tuple #[.int .i64 0, .int .i64 0, .bool false]) (by simp [results, Tryz.results38, go_sem]) rfl ⟨by rw [unhide HR]; simp [h2], unhide HB⟩
  obtain ⟨sb, hsb⟩ : ∃ sb, sb = soundE e := ⟨_, rfl⟩
  rw [← hsb] at HS HR
  have n1 : decide (N < 1) = false := by simpa using h1
  have n2 : decide (H < 1) = false := by simpa using h2
  rw [n1, n2] at HR
  cases sb with
  | false =>
    clear hsb n1 n2
    go_enter Tryz.func38, Tryz.ntmps38
    go_wp2_with (go_at_call 39; refine (unhide HS _).mono ?_; rintro e' w1 ⟨rfl, hb1⟩)
    refine bodyPost_ret (v := .tuple #[.int .i64 0, .int .i64 0, .bool false]) (by simp [results, Tryz.results38, go_sem]) rfl ⟨by rw [unhide HR]; rfl, below_one hb1⟩
  | true =>
    clear hsb n1 n2
    have HR2 : Hid (R = match measL soundE e.args N H 1 0 with
      | some (c, h) => (c, h + 1, true)
      | none => (0, 0, false)) := by have := unhide HR; show _ = _; simpa using this
    clear HR
    go_enter Tryz.func38, Tryz.ntmps38
    go_wp2_with (go_at_call 39; refine (unhide HS _).mono ?_; rintro e' w1 ⟨rfl, hb1⟩; obtain ⟨c0, c1, c2, c3, c4, c5⟩ := (unhide H6).later hb1)
    have HB1 := hide (below_step (unhide HB) hb1)
    have HAL1 := hide (Ex.all_later _ (unhide HAL) (unhide HB1))
    clear hb1 HS
    go_loopw [11, 12, 33] (fun s11 s12 i wr => ∃ (k : Nat) (cc hh : Int), k ≤ e.args.length ∧ i = .int .i64 (k : Int) ∧ s11 = .int .i64 cc ∧ s12 = .int .i64 hh ∧ 1 ≤ cc ∧ cc ≤ N ∧ 0 ≤ hh ∧ hh ≤ H - 1 ∧ Hid (measL soundE e.args N H 1 0 = measL soundE (e.args.drop k) N H cc hh) ∧ Below w1.heap.size w1 wr) (fun _ _ i _ => e.args.length - (intOf i).toNat)
    case atStart => exact ⟨0, 1, 0, Nat.zero_le _, rfl, rfl, rfl, by omega, by omega, by omega, by omega, rfl, Below.refl _ _⟩
    case round =>
      obtain ⟨k, cc, hh, hk, rfl, rfl, rfl, g1, g2, g3, g4, HM, hb⟩ := hrel
      by_cases hlt : k < e.args.length
      · have h9 : (k : Int) < (e.args.length : Int) := by omega
        obtain ⟨x, hx⟩ : ∃ x, e.args[k]? = some x := ⟨_, List.getElem?_eq_getElem hlt⟩
        have hd : e.args.drop k = x :: e.args.drop (k + 1) := by
          obtain ⟨q1, q2⟩ := List.getElem?_eq_some_iff.1 hx
          rw [List.drop_eq_getElem_cons q1, q2]
        obtain ⟨vb, vo, ea, hat⟩ := Ex.all_get (Ex.all_later _ (unhide HAL1) hb) hx
        obtain ⟨a', c', ⟨d0, d1, d2, d3, d4, d5⟩, hal⟩ := Ex.at_open hat
        have HC := hide (unhide HIH k x hx (N - cc) (H - 1) a' c' (wr.alloc (.cells #[.int .i64 x.op, .int .i64 x.n, .int .i64 x.v.k, .int .i64 x.v.n, .string x.v.s, .slice a' x.args.length c'] 26)) (by omega) (by omega) (by omega) (by omega) (Ex.all_later _ hal (below_alloc (Below.refl _ _) _)))
        rw [Ex.val_open] at HC
        rw [hd, measL] at HM
        obtain ⟨q, hq⟩ : ∃ q, measE soundE x (N - cc) (H - 1) = q := ⟨_, rfl⟩
        rw [hq] at HC HM
        have HQ := hide hq
        obtain ⟨c2', h2', ok⟩ := q
        have HB2 := hide (below_alloc hb (.cells #[.int .i64 x.op, .int .i64 x.n, .int .i64 x.v.k, .int .i64 x.v.n, .string x.v.s, .slice a' x.args.length c'] 26))
        subst ea
        clear hx hd hat hal hq hb
        cases ok with
        | false =>
          have HE : Hid (R = (0, 0, false)) := by have h1 := unhide HM; have h2 := unhide HR2; rw [h1] at h2; show _ = _; simpa using h2
          clear HM HQ
          go_wp2_with (go_at_call 38; refine (unhide HC).mono ?_; rintro r w3 ⟨rfl, hb3⟩)
          refine bodyPost_ret (v := .tuple #[.int .i64 0, .int .i64 0, .bool false]) (by simp [results, Tryz.results38, go_sem]) rfl ⟨by rw [unhide HE], below_step (unhide HB1) (below_step (unhide HB2) hb3)⟩
        | true =>
          obtain ⟨m1, m2, m3, m4⟩ := meas_le soundE x (N - cc) (H - 1) (unhide HQ)
          have HM2 : Hid (measL soundE e.args N H 1 0 = measL soundE (e.args.drop (k + 1)) N H (cc + c2') (max hh h2')) := by have := unhide HM; show _ = _; simpa using this
          clear HM HQ
          go_wp2_with (go_at_call 38; refine (unhide HC).mono ?_; rintro r w3 ⟨rfl, hb3⟩)
          refine ⟨⟨k + 1, cc + c2', max hh h2', by omega, by go_num, rfl, by rw [max_if], by omega, by omega, by omega, by omega, HM2, below_step (unhide HB2) hb3⟩, by simp [intOf]; omega⟩
      · have h9 : ¬ (k : Int) < (e.args.length : Int) := by omega
        have HE : Hid (R = (cc, hh + 1, true)) := by
          have h1 := unhide HM
          have h2 := unhide HR2
          rw [List.drop_eq_nil_of_le (by omega), measL] at h1
          rw [h1] at h2
          exact h2
        have HBE := hide (below_step (unhide HB1) hb)
        clear HM HR2 hb
        go_wp2
        refine bodyPost_ret (v := .tuple #[.int .i64 cc, .int .i64 (hh + 1), .bool true]) (by simp [results, Tryz.results38, go_sem]) rfl ⟨by rw [unhide HE], unhide HBE⟩
theorem measured_all : ∀ (k : Nat) (e : Ex), e.size ≤ k → e.fin → ∀ (N H : Int) (a : Option Addr) (c : Nat) (w : World), 0 ≤ N → N ≤ 40000000 → 0 ≤ H → H ≤ 200000 → Ex.all w a e.args →
    Calls Tryz.prog 38 #[e.val a c, .int .i64 N, .int .i64 H, .func (.func 39) #[] #[]] w fun r w' => r = M3 (measE soundE e N H) ∧ Below w.heap.size w w'
  | 0, e, hs, _, _, _, _, _, _, _, _, _, _, _ => by rw [Ex.size_mk] at hs; omega
  | k + 1, e, hs, hf, N, H, a, c, w, h1, h2, h3, h4, ha => measured_step e hf N H a c w h1 h2 h3 h4 ha fun i x hx N' H' a' c' W g1 g2 g3 g4 hW =>
    measured_all k x (by have := Ex.size_arg hx; omega) (Ex.fin_arg hf hx) N' H' a' c' W g1 g2 g3 g4 hW
set_option maxHeartbeats 400000 in
theorem built_any (e : Ex) (hf : e.fin) (a : Option Addr) (c : Nat) (w : World) (ha : Ex.all w a e.args) :
    Calls Tryz.prog 21 #[e.val a c] w fun r w' => r = .returned (.bool (builtE e)) ∧ Below w.heap.size w w' := by
  have HM := hide (fun o => measured_all e.size e (Nat.le_refl _) hf 400 40 a c (w.alloc o) (by omega) (by omega) (by omega) (by omega) (Ex.all_later _ ha (below_alloc (Below.refl _ _) o)))
  obtain ⟨q, hq⟩ : ∃ q, measE soundE e 400 40 = q := ⟨_, rfl⟩
  have hb : builtE e = q.2.2 := by rw [← hq]; rfl
  rw [hb]
  rw [hq] at HM
  obtain ⟨c2, h2, ok⟩ := q
  rw [Ex.val_open] at HM ⊢
  clear hq hb ha
  go_enter Tryz.func21, Tryz.ntmps21
  go_wp2_with (go_at_call 38; refine (unhide HM _).mono ?_; rintro r w1 ⟨rfl, hb1⟩)
  go_ret
  exact ⟨rfl, below_one hb1⟩
end Go.Proofs.YtmagpdblacgneaaGreat
set_option linter.unusedSimpArgs false
set_option linter.unusedVariables false
namespace Go.Proofs.YtmagpdblacgneaaGreat
open Go.RowKit Go.Sort

mutual
/-- With no more than each operator needs. -/
def copyE : Ex → Ex
  | .mk op n v l => .mk op (if op == 1 then n else 0) (if op == 2 then cleanV v else .null) (copyL l)
def copyL : List Ex → List Ex
  | [] => []
  | e :: l => copyE e :: copyL l
end
theorem copyL_map : ∀ l : List Ex, copyL l = l.map copyE
  | [] => by rw [copyL]; rfl
  | e :: l => by rw [copyL, copyL_map l]; rfl
theorem copyE_eq (e : Ex) : copyE e = .mk e.op (if e.op == 1 then e.n else 0) (if e.op == 2 then cleanV e.v else .null) (e.args.map copyE) := by
  cases e with
  | mk op n v l => rw [copyE, copyL_map]; rfl
theorem copy_op (e : Ex) : (copyE e).op = e.op := by rw [copyE_eq]; rfl
theorem copy_args (e : Ex) : (copyE e).args = e.args.map copyE := by rw [copyE_eq]; rfl
theorem copy_n (e : Ex) : (copyE e).n = if e.op == 1 then e.n else 0 := by rw [copyE_eq]; rfl
theorem copy_v (e : Ex) : (copyE e).v = if e.op == 2 then cleanV e.v else .null := by rw [copyE_eq]; rfl
theorem sound_copy (e : Ex) : soundE (copyE e) = soundE e := by
  have ho := copy_op e
  have hl : (copyE e).args.length = e.args.length := by rw [copy_args, List.length_map]
  have hn := copy_n e
  have hv := copy_v e
  unfold soundE
  rw [ho, hl, hn, hv]
  generalize e.op = op
  by_cases h1 : op = 1
  · subst h1; rfl
  · by_cases h2 : op = 2
    · subst h2
      simp [clean_clean]
    · have e1 : (op == 1) = false := by simpa using h1
      have e2 : (op == 2) = false := by simpa using h2
      rw [e1, e2]
      rfl
mutual
theorem meas_copy : ∀ (e : Ex) (N H : Int), measE soundE (copyE e) N H = measE soundE e N H
  | .mk op n v l, N, H => by
    have hs := sound_copy (.mk op n v l)
    rw [copyE] at hs ⊢
    rw [measE, measE, hs, measL_copy l]
theorem measL_copy : ∀ (l : List Ex) (N H c h : Int), measL soundE (copyL l) N H c h = measL soundE l N H c h
  | [], N, H, c, h => by rw [copyL]
  | e :: l, N, H, c, h => by
    rw [copyL, measL, measL, meas_copy e, measL_copy l]
end
theorem built_copy (e : Ex) : builtE (copyE e) = builtE e := by unfold builtE; rw [meas_copy]
theorem in64_zero : In64 0 := ⟨by decide, by decide⟩
theorem clean_in (v : Val) (h : In64 v.n) : In64 (cleanV v).n := by
  unfold cleanV
  split
  · exact h
  · split
    · exact in64_zero
    · exact in64_zero
mutual
theorem copy_fin : ∀ (e : Ex), e.fin → (copyE e).fin
  | .mk op n v l, h => by
    rw [Ex.fin] at h
    rw [copyE, Ex.fin]
    obtain ⟨⟨h1, h2, h3, h4⟩, h5⟩ := h
    refine ⟨⟨by rw [copyL_map, List.length_map]; exact h1, ?_, ?_, ?_⟩, copy_fins l h5⟩
    · split
      · exact Nat.le_trans (clean_size v) h2
      · exact Nat.zero_le _
    · split
      · exact clean_in v h3
      · exact in64_zero
    · split
      · exact h4
      · exact in64_zero
theorem copy_fins : ∀ (l : List Ex), Ex.fins l → Ex.fins (copyL l)
  | [], _ => by rw [copyL, Ex.fins]; trivial
  | e :: l, h => by
    rw [Ex.fins] at h
    rw [copyL, Ex.fins]
    exact ⟨copy_fin e h.1, copy_fins l h.2⟩
end
/-! A greater budget measures the same. -/
mutual
theorem meas_mono (p : Ex → Bool) : ∀ (e : Ex) (N H N' H' : Int) {c h : Int}, measE p e N H = (c, h, true) → N ≤ N' → H ≤ H' → measE p e N' H' = (c, h, true)
  | .mk op n v l, N, H, N', H', c, h, he, h1, h2 => by
    rw [measE] at he ⊢
    split at he
    · injection he with _ he; injection he with _ he; cases he
    · rename_i hc
      simp only [Bool.or_eq_true, decide_eq_true_eq, not_or, Bool.not_eq_true'] at hc
      have hp : p (.mk op n v l) = true := by simpa using hc.2
      rw [if_neg (by simp only [Bool.or_eq_true, decide_eq_true_eq, not_or, Bool.not_eq_true']; exact ⟨⟨by omega, by omega⟩, by simp [hp]⟩)]
      cases hm : measL p l N H 1 0 with
      | none => rw [hm] at he; simp only at he; injection he with _ he; injection he with _ he; cases he
      | some q =>
        rw [hm] at he
        rw [measL_mono p l N H N' H' 1 0 (by rw [hm]) h1 h2]
        exact he
theorem measL_mono (p : Ex → Bool) : ∀ (l : List Ex) (N H N' H' c h : Int) {q : Int × Int}, measL p l N H c h = some q → N ≤ N' → H ≤ H' → measL p l N' H' c h = some q
  | [], N, H, N', H', c, h, q, he, h1, h2 => by rw [measL] at he ⊢; exact he
  | e :: l, N, H, N', H', c, h, q, he, h1, h2 => by
    rw [measL] at he ⊢
    split at he
    · rename_i hok
      obtain ⟨c2, h2', ok, hm⟩ : ∃ c2 h2 ok, measE p e (N - c) (H - 1) = (c2, h2, ok) := ⟨_, _, _, rfl⟩
      rw [hm] at he hok
      simp only at he hok
      subst hok
      rw [meas_mono p e (N - c) (H - 1) (N' - c) (H' - 1) hm (by omega) (by omega)]
      simp only [if_true]
      exact measL_mono p l N H N' H' _ _ he h1 h2
    · cases he
end
theorem measL_mem (p : Ex → Bool) : ∀ (l : List Ex) (N H c h : Int) (x : Ex), 1 ≤ c → 0 ≤ h → (measL p l N H c h).isSome = true → x ∈ l → ∃ N' H', N' ≤ N ∧ H' ≤ H ∧ (measE p x N' H').2.2 = true
  | [], N, H, c, h, x, _, _, he, hx => by cases hx
  | e :: l, N, H, c, h, x, h1, h2, he, hx => by
    rw [measL] at he
    split at he
    · rename_i hok
      rcases List.mem_cons.1 hx with rfl | hx
      · exact ⟨N - c, H - 1, by omega, by omega, hok⟩
      · obtain ⟨c2, h2', ok, hm⟩ : ∃ c2 h2 ok, measE p e (N - c) (H - 1) = (c2, h2, ok) := ⟨_, _, _, rfl⟩
        rw [hm] at he hok
        simp only at he hok
        subst hok
        have g := meas_le p e (N - c) (H - 1) hm
        exact measL_mem p l N H _ _ x (by omega) (by omega) he hx
    · cases he
theorem built_arg {e x : Ex} {i : Nat} (h : builtE e = true) (hx : e.args[i]? = some x) : builtE x = true := by
  unfold builtE at h ⊢
  rw [measE_eq] at h
  split at h
  · cases h
  · cases hm : measL soundE e.args 400 40 1 0 with
    | none => rw [hm] at h; cases h
    | some q =>
      obtain ⟨N', H', h1, h2, h3⟩ := measL_mem soundE e.args 400 40 1 0 x (by omega) (by omega) (by rw [hm]; rfl) (List.mem_of_getElem? hx)
      obtain ⟨c2, h2', ok, hk⟩ : ∃ c2 h2 ok, measE soundE x N' H' = (c2, h2, ok) := ⟨_, _, _, rfl⟩
      rw [hk] at h3
      simp only at h3
      subst h3
      rw [meas_mono soundE x N' H' 400 40 hk h1 h2]
/-- A node without its parts, with no more than its operator needs. -/
def needE (e : Ex) : Ex := .mk e.op (if e.op == 1 then e.n else 0) (if e.op == 2 then cleanV e.v else .null) []
mutual
/-- Made anew from the leaves on. -/
def madeE (g : Ex → Ex) : Ex → Ex
  | .mk op n v l => g (.mk op (if op == 1 then n else 0) (if op == 2 then cleanV v else .null) (madeL g l))
def madeL (g : Ex → Ex) : List Ex → List Ex
  | [] => []
  | e :: l => madeE g e :: madeL g l
end
theorem madeL_map (g : Ex → Ex) : ∀ l : List Ex, madeL g l = l.map (madeE g)
  | [] => by rw [madeL]; rfl
  | e :: l => by rw [madeL, madeL_map g l]; rfl
/-- A node with its parts made. -/
def nodeG (g : Ex → Ex) (e : Ex) : Ex := .mk e.op (if e.op == 1 then e.n else 0) (if e.op == 2 then cleanV e.v else .null) (e.args.map (madeE g))
theorem madeE_eq (g : Ex → Ex) (e : Ex) : madeE g e = g (nodeG g e) := by
  cases e with
  | mk op n v l => rw [madeE, madeL_map]; rfl
mutual
theorem made_copy : ∀ e : Ex, madeE id e = copyE e
  | .mk op n v l => by rw [madeE, copyE, made_copyL l]; rfl
theorem made_copyL : ∀ l : List Ex, madeL id l = copyL l
  | [] => by rw [madeL, copyL]
  | e :: l => by rw [madeL, copyL, made_copy e, made_copyL l]
end
mutual
/-- No list in it is long. -/
def Ex.short : Ex → Prop
  | .mk _ _ _ l => l.length ≤ 1000000000 ∧ Ex.shorts l
def Ex.shorts : List Ex → Prop
  | [] => True
  | e :: l => e.short ∧ Ex.shorts l
end
theorem Ex.short_open {e : Ex} (h : e.short) : e.args.length ≤ 1000000000 ∧ Ex.shorts e.args := by
  cases e with
  | mk op n v l => rw [Ex.short] at h; exact h
theorem Ex.shorts_mem : ∀ {l : List Ex} {x : Ex}, Ex.shorts l → x ∈ l → x.short
  | [], _, _, h => by cases h
  | e :: l, x, hf, h => by
    rw [Ex.shorts] at hf
    rcases List.mem_cons.1 h with rfl | h
    · exact hf.1
    · exact Ex.shorts_mem hf.2 h
theorem Ex.short_arg {e x : Ex} {i : Nat} (h : e.short) (hx : e.args[i]? = some x) : x.short := Ex.shorts_mem (Ex.short_open h).2 (List.mem_of_getElem? hx)
mutual
theorem meas_short (p : Ex → Bool) : ∀ (e : Ex) (N H : Int), N ≤ 1000000000 → (measE p e N H).2.2 = true → e.short
  | .mk op n v l, N, H, hN, he => by
    rw [measE] at he
    split at he
    · cases he
    · rename_i hc
      simp only [Bool.or_eq_true, decide_eq_true_eq, not_or] at hc
      cases hm : measL p l N H 1 0 with
      | none => rw [hm] at he; cases he
      | some q =>
        rw [Ex.short]
        have := measL_short p l N H 1 0 (q := q) (by omega) (by omega) (by omega) (by omega) hN hm
        have h2 := measL_le p l N H 1 0 (c' := q.1) (h' := q.2) (by omega) (by omega) (by omega) (by omega) hm
        exact ⟨by omega, this.2⟩
theorem measL_short (p : Ex → Bool) : ∀ (l : List Ex) (N H c h : Int) {q : Int × Int}, 1 ≤ c → c ≤ N → 0 ≤ h → h ≤ H - 1 → N ≤ 1000000000 → measL p l N H c h = some q → c + l.length ≤ q.1 ∧ Ex.shorts l
  | [], N, H, c, h, q, h1, h2, h3, h4, hN, he => by
    rw [measL] at he
    injection he with he
    subst he
    exact ⟨by show c + ((0 : Nat) : Int) ≤ c; omega, by rw [Ex.shorts]; trivial⟩
  | e :: l, N, H, c, h, q, h1, h2, h3, h4, hN, he => by
    rw [measL] at he
    split at he
    · rename_i hok
      have hs := meas_short p e (N - c) (H - 1) (by omega) hok
      obtain ⟨c2, h2', ok, hm⟩ : ∃ c2 h2 ok, measE p e (N - c) (H - 1) = (c2, h2, ok) := ⟨_, _, _, rfl⟩
      rw [hm] at he hok
      simp only at he hok
      subst hok
      have g := meas_le p e (N - c) (H - 1) hm
      have := measL_short p l N H (c + c2) (max h h2') (by omega) (by omega) (by omega) (by omega) hN he
      rw [Ex.shorts, List.length_cons]
      exact ⟨by omega, hs, this.2⟩
    · cases he
end
end Go.Proofs.YtmagpdblacgneaaGreat
set_option linter.unusedSimpArgs false
set_option linter.unusedVariables false
namespace Go.Proofs.YtmagpdblacgneaaGreat
open Go.RowKit Go.Sort

/-! What a function value needs: the blocks from lo on, but those of N. -/
structure Kept (lo : Nat) (N : List Nat) (w w' : World) : Prop where
  size : w.heap.size ≤ w'.heap.size
  block : ∀ b, lo ≤ b → b < w.heap.size → b ∉ N → w'.heap[b]? = w.heap[b]?
theorem Kept.refl (lo : Nat) (N : List Nat) (w : World) : Kept lo N w w := ⟨Nat.le_refl _, fun _ _ _ _ => rfl⟩
theorem Kept.trans {lo : Nat} {N : List Nat} {w w' w'' : World} (h : Kept lo N w w') (h' : Kept lo N w' w'') : Kept lo N w w'' :=
  ⟨Nat.le_trans h.size h'.size, fun b h1 h2 h3 => (h'.block b h1 (Nat.lt_of_lt_of_le h2 h.size) h3).trans (h.block b h1 h2 h3)⟩
theorem Kept.of_below {w w' : World} (lo : Nat) (N : List Nat) (h : Below w.heap.size w w') : Kept lo N w w' := ⟨h.size, fun b _ h2 _ => h.block b h2⟩
theorem Kept.of_store (w : World) (lo : Nat) {N : List Nat} {B : Nat} (o : Nat) (v : Value) (h : B ∈ N) : Kept lo N w (w.setCell ⟨B, o, none⟩ v) :=
  ⟨by simp [World.setCell], fun b _ _ h3 => Below.heap_setCell _ _ _ _ (fun e => h3 (by rw [e]; exact h))⟩
theorem Kept.more {lo lo' : Nat} {N N' : List Nat} {w w' : World} (h : Kept lo' N' w w') (hl : lo' ≤ lo) (hN : ∀ b ∈ N', b ∈ N ∨ b < lo ∨ w.heap.size ≤ b) : Kept lo N w w' :=
  ⟨h.size, fun b h1 h2 h3 => h.block b (Nat.le_trans hl h1) h2 fun hb => by
    rcases hN b hb with h | h | h
    · exact h3 h
    · omega
    · omega⟩
theorem Kept.cell {lo : Nat} {N : List Nat} {w w' : World} {b o : Nat} {v : Value} (h : w.cell? ⟨b, o, none⟩ = some v) (hk : Kept lo N w w') (h1 : lo ≤ b) (h3 : b ∉ N) : w'.cell? ⟨b, o, none⟩ = some v := by
  have hl := World.block_lt_of_cell? _ _ h
  rw [← h]
  unfold World.cell?
  rw [hk.block b h1 hl h3]
end Go.Proofs.YtmagpdblacgneaaGreat
set_option linter.unusedSimpArgs false
set_option linter.unusedVariables false
namespace Go.Proofs.YtmagpdblacgneaaGreat
open Go.RowKit Go.Sort

theorem own_later {w w1 : World} {base e size : Nat} {v : Value} {m : Nat} {xs : List Value} (h : w.ownsRow base e size v m xs) (hb : Below w.heap.size w w1) : w1.ownsRow base e size v m xs :=
  h.kept (row := none) ⟨hb.os, hb.tape, hb.output, hb.size, fun k hk _ => hb.block k hk⟩ (by cases v.ownBlock with | none => exact .inl rfl | some g => exact .inr (by simp))
theorem grown_below {w w' : World} {row : Option Nat} (hg : w.grownBy w' row) {B : Nat} (hB : B ≤ w.heap.size) (hr : ∀ g, row = some g → B ≤ g) : Below B w w' :=
  ⟨hg.os, hg.tape, hg.output, hg.size, fun k hk => hg.block k (by omega) (fun e => by have := hr k e.symm; omega)⟩
end Go.Proofs.YtmagpdblacgneaaGreat

import Derived.Test.YtmagpdblacgneaaGreatPaE
import Derived.Test.YtmagpdblacgneaaGreatPuA
set_option linter.unusedSimpArgs false
set_option linter.unusedVariables false
namespace Go.Proofs.YtmagpdblacgneaaGreat
open Go.RowKit Go.Sort

theorem ints_later {w w' : World} {a : Option Addr} {l : List Int} (h : IntsAt w a l) (hb : Below w.heap.size w w') : IntsAt w' a l := h.later hb
theorem all_drop {p : Int → Bool} {l : List Int} {k : Nat} {x : Int} (hx : l[k]? = some x) : (l.drop k).all p = (p x && (l.drop (k + 1)).all p) := by
  obtain ⟨q1, q2⟩ := List.getElem?_eq_some_iff.1 hx
  rw [List.drop_eq_getElem_cons q1, List.all_cons, q2]
set_option maxHeartbeats 1000000 in
set_option maxRecDepth 100000 in
/-- usesBelow (19). -/
theorem uses_any (e : Ex) (hg : goodE e) (hf : e.fin) (hsz : e.size ≤ 400) (n : Int) (a : Option Addr) (c : Nat) (w : World) (ha : Ex.all w a e.args) :
    Calls Tryz.prog 28 #[e.val a c, .int .i64 n] w fun r w' => r = .returned (.bool (usesB e n)) ∧ Below w.heap.size w w' := by
  have HC := hide (fun (W : World) (hW : Below w.heap.size w W) => columns_all e.size e (Nat.le_refl _) hg hf hsz a c W (Ex.all_later _ ha hW))
  have HB0 := hide (below_alloc (Below.refl _ w) (.cells #[.int .i64 e.op, .int .i64 e.n, .int .i64 e.v.k, .int .i64 e.v.n, .string e.v.s, .slice a e.args.length c] 26))
  have hcl : (colsE e).length ≤ 400 := Nat.le_trans (cols_size e) hsz
  obtain ⟨cols, hcols⟩ : ∃ cols, cols = colsE e := ⟨_, rfl⟩
  have HU : Hid (usesB e n = cols.all fun c => decide (c < n)) := by rw [hcols]; rfl
  rw [← hcols] at HC hcl
  rw [Ex.val_open] at HC ⊢
  generalize usesB e n = R at *
  clear ha hcols
  go_enter Tryz.func28, Tryz.ntmps28
  go_wp2_with (go_at_call 34; refine (unhide HC _ (unhide HB0)).mono ?_; rintro r w1 ⟨v1, rfl, hO, hb1⟩; obtain ⟨a1, cap1, rfl⟩ := hO.slice)
  have HI1 := hide hO.ints
  have HB1 := hide (below_step (unhide HB0) hb1)
  clear hO hb1
  go_loopw [10] (fun i wr => ∃ k : Nat, k ≤ cols.length ∧ i = .int .i64 (k : Int) ∧ Hid (R = (cols.drop k).all fun c => decide (c < n)) ∧ wr = w1) (fun i _ => cols.length - (intOf i).toNat)
  case atStart => exact ⟨0, Nat.zero_le _, rfl, unhide HU, rfl⟩
  case round =>
    obtain ⟨k, hk, rfl, HR, rfl⟩ := hrel
    by_cases hlt : k < cols.length
    · have h9 : (k : Int) < (cols.length : Int) := by omega
      obtain ⟨x, hx⟩ : ∃ x, cols[k]? = some x := ⟨_, List.getElem?_eq_getElem hlt⟩
      obtain ⟨b, off, rfl, c0⟩ := (unhide HI1).get hx
      rw [all_drop hx] at HR
      clear hx
      by_cases hxn : x < n
      · have hd : decide (x < n) = true := by simpa using hxn
        rw [hd, Bool.true_and] at HR
        clear hd
        go_wp2
        exact ⟨⟨k + 1, by omega, by go_num, HR, by trivial⟩, by simp [intOf]; omega⟩
      · have hd : decide (x < n) = false := by simpa using hxn
        rw [hd, Bool.false_and] at HR
        clear hd
        go_wp2
        go_ret
        exact ⟨by rw [unhide HR]; rfl, unhide HB1⟩
    · have h9 : ¬ (k : Int) < (cols.length : Int) := by omega
      rw [List.drop_eq_nil_of_le (by omega), List.all_nil] at HR
      go_wp2
      go_ret
      exact ⟨by rw [unhide HR]; rfl, unhide HB1⟩
set_option maxHeartbeats 400000 in
set_option maxRecDepth 100000 in
theorem notbuilt_any (e : Ex) (hf : e.fin) (a : Option Addr) (c : Nat) (w : World) (ha : Ex.all w a e.args) : Calls Tryz.prog 27 #[e.val a c] w fun r w' => r = .returned (.bool (!builtE e)) ∧ Below w.heap.size w w' := by
  have HB := hide (fun (W : World) (hW : Below w.heap.size w W) => built_any e hf a c W (Ex.all_later _ ha hW))
  have HB0 := hide (below_alloc (Below.refl _ w) (.cells #[.int .i64 e.op, .int .i64 e.n, .int .i64 e.v.k, .int .i64 e.v.n, .string e.v.s, .slice a e.args.length c] 26))
  rw [Ex.val_open] at HB ⊢
  generalize builtE e = b at *
  clear ha
  go_enter Tryz.func27, Tryz.ntmps27
  go_wp2_with (go_at_call 21; refine (unhide HB _ (unhide HB0)).mono ?_; rintro r w1 ⟨rfl, hb1⟩)
  go_ret
  exact ⟨rfl, below_step (unhide HB0) hb1⟩
theorem ent26 : Enters 27 := fun args w => by kernel_rfl
theorem test_notbuilt (W : World) : TestE W (.func (.func 27) #[] #[]) (fun e => !builtE e) := ⟨27, #[], rfl, ent26, fun x a c W' hf _ ha => by simpa using notbuilt_any x hf a c W' ha⟩
set_option maxHeartbeats 1000000 in
set_option maxRecDepth 100000 in
/-- What the closure of Put does. -/
theorem put1_any (by_ : List Ex) (hb : ∀ x ∈ by_, builtE x = true) (hbf : Ex.fins by_) (B : Nat) (aB : Option Addr) (cB : Nat) (e : Ex) (hP : e.op = 1 → 0 ≤ e.n ∧ e.n < by_.length) (a : Option Addr) (c : Nat) (lo : Nat) (w : World) (hlo : lo ≤ w.heap.size) (hK : ExK lo w a c e.args) (hB : Box1 w B (.slice aB by_.length cB)) (hbl : by_.length ≤ 140737488355328) (hA : Ex.all w aB by_) :
    Calls Tryz.prog 29 #[e.val a c, .pointer (some ⟨B, 0, none⟩)] w fun r w' => ∃ a2 c2, r = .returned ((putG by_ e).val a2 c2) ∧ ExK lo w' a2 c2 (putG by_ e).args ∧ Below w.heap.size w w' := by
  have HB0 : Hid (Below w.heap.size w ((w.alloc (.cells #[.int .i64 e.op, .int .i64 e.n, .int .i64 e.v.k, .int .i64 e.v.n, .string e.v.s, .slice a e.args.length c] 26)).alloc (.cells #[.int .i64 0, .int .i64 0, .int .i64 0, .int .i64 0, .string ⟨#[]⟩, .slice none 0 0] 26))) := below_alloc (below_alloc (Below.refl _ w) _) _
  have HZ : Hid (Box6 ((w.alloc (.cells #[.int .i64 e.op, .int .i64 e.n, .int .i64 e.v.k, .int .i64 e.v.n, .string e.v.s, .slice a e.args.length c] 26)).alloc (.cells #[.int .i64 0, .int .i64 0, .int .i64 0, .int .i64 0, .string ⟨#[]⟩, .slice none 0 0] 26)) (w.heap.size + 1) zeroE none 0) := by
    have h := Box6.new (w.alloc (.cells #[.int .i64 e.op, .int .i64 e.n, .int .i64 e.v.k, .int .i64 e.v.n, .string e.v.s, .slice a e.args.length c] 26)) zeroE none 0
    rw [show (w.alloc (.cells #[.int .i64 e.op, .int .i64 e.n, .int .i64 e.v.k, .int .i64 e.v.n, .string e.v.s, .slice a e.args.length c] 26)).heap.size = w.heap.size + 1 by simp [go_sem]] at h
    exact h
  have HK := hide hK
  have hbx : ((w.alloc (.cells #[.int .i64 e.op, .int .i64 e.n, .int .i64 e.v.k, .int .i64 e.v.n, .string e.v.s, .slice a e.args.length c] 26)).alloc (.cells #[.int .i64 0, .int .i64 0, .int .i64 0, .int .i64 0, .string ⟨#[]⟩, .slice none 0 0] 26)).cell? ⟨B, 0, none⟩ = some (.slice aB by_.length cB) := clater hB (unhide HB0)
  rw [Ex.val_open]
  by_cases h1 : e.op = 1
  · obtain ⟨h0, hlt⟩ := hP h1
    obtain ⟨n, hn⟩ : ∃ n : Nat, e.n = n := ⟨e.n.toNat, by omega⟩
    have hx : by_[n]? = some (by_.getD n e) := getD_at (by omega)
    have hp : putG by_ e = copyT (by_.getD n e) := by rw [putG_col h1, hn]; rfl
    generalize by_.getD n e = x at *
    obtain ⟨vb, vo, rfl, hat⟩ := Ex.all_get (Ex.all_later _ hA (unhide HB0)) hx
    obtain ⟨a', c', ⟨d0, d1, d2, d3, d4, d5⟩, hal⟩ := Ex.at_open hat
    have HC := hide (copied_any x (Ex.fins_mem hbf (List.mem_of_getElem? hx)) a' c' _ hal)
    have HME := hide (built_ends (hb x (List.mem_of_getElem? hx)))
    have HV := hide hp
    have hs2 : ((w.alloc (.cells #[.int .i64 e.op, .int .i64 e.n, .int .i64 e.v.k, .int .i64 e.v.n, .string e.v.s, .slice a e.args.length c] 26)).alloc (.cells #[.int .i64 0, .int .i64 0, .int .i64 0, .int .i64 0, .string ⟨#[]⟩, .slice none 0 0] 26)).heap.size = w.heap.size + 2 := by simp [go_sem]
    have HS2 := hide hs2
    rw [Ex.val_open] at HC
    rw [h1, hn] at HB0 HZ HC HS2 hbx d0 d1 d2 d3 d4 d5 ⊢
    have h8 : (n : Int) < (by_.length : Int) := by omega
    clear hx hp hat hal hK hP h0 hlt hA hB hs2
    go_enter Tryz.func29, Tryz.ntmps29
    go_wp2_with (go_at_call 22; refine (unhide HC).mono ?_; rintro r w2 ⟨a2, c2, rfl, hK2, _, hb2⟩; have HK2 := hide (hK2 (unhide HME)); obtain ⟨⟨z0, z1, z2, z3, z4, z5⟩, f0, f1, f2, f3, f4, f5⟩ := (unhide HZ).later hb2; rw [Ex.val_open])
    have hE := put6 (below_step (unhide HB0) hb2) (B := w.heap.size + 1) (by omega) (.int .i64 (copyT x).op) (.int .i64 (copyT x).n) (.int .i64 (copyT x).v.k) (.int .i64 (copyT x).v.n) (.string (copyT x).v.s) (.slice a2 (copyT x).args.length c2)
    have hs3 := unhide HS2
    refine bodyPost_ret (v := (copyT x).val a2 c2) (by simp [results, Tryz.results29, go_sem, Ex.val, *]) rfl ⟨a2, c2, by rw [unhide HV], ?_, hE⟩
    rw [unhide HV]
    refine (((unhide HK2).on ((((((Kept.of_low _ _ _ _ ?_).trans (Kept.of_low _ _ _ _ ?_)).trans (Kept.of_low _ _ _ _ ?_)).trans (Kept.of_low _ _ _ _ ?_)).trans (Kept.of_low _ _ _ _ ?_)).trans (Kept.of_low _ _ _ _ ?_))).more (by omega)) <;> omega
  · have hp := putG_no (by_ := by_) h1
    rw [hp]
    clear hp hP
    go_enter Tryz.func29, Tryz.ntmps29
    go_wp2
    refine bodyPost_ret (v := e.val a c) (by simp [results, Tryz.results29, go_sem, Ex.val, *]) rfl ⟨a, c, rfl, (unhide HK).on (Kept.of_below _ _ (below_alloc (below_alloc (Below.refl _ w) _) _)), below_alloc (below_alloc (Below.refl _ w) _) _⟩
theorem entPut : Enters 29 := fun args w => by kernel_rfl
set_option maxRecDepth 100000 in
theorem by_put (by_ : List Ex) (hb : ∀ x ∈ by_, builtE x = true) (hbf : Ex.fins by_) (hbl : by_.length ≤ 140737488355328) (B : Nat) (aB : Option Addr) (cB : Nat) (W : World) (hB : Box1 W B (.slice aB by_.length cB)) (hA : Ex.all W aB by_) :
    By W (.func (.func 29) #[] #[.pointer (some ⟨B, 0, none⟩)]) (putG by_) (fun e => e.op = 1 → 0 ≤ e.n ∧ e.n < by_.length) :=
  ⟨29, #[.pointer (some ⟨B, 0, none⟩)], rfl, entPut, fun W' lo e a c hW hlo hP hK => put1_any by_ hb hbf B aB cB e hP a c lo W' hlo hK (hB.later hW) hbl (Ex.all_later _ hA hW)⟩
theorem made_put (by_ : List Ex) (hb : ∀ x ∈ by_, builtE x = true) (hbf : Ex.fins by_) (hbl : by_.length ≤ 140737488355328) (B : Nat) (aB : Option Addr) (cB : Nat) (e : Ex) (hbe : builtE e = true) (hf : e.fin) (hu : usesB e by_.length = true) (a : Option Addr) (c : Nat) (w : World) (ha : Ex.all w a e.args) (hB : Box1 w B (.slice aB by_.length cB)) (hA : Ex.all w aB by_) :
    Calls Tryz.prog 23 #[e.val a c, .func (.func 29) #[] #[.pointer (some ⟨B, 0, none⟩)]] w fun r w' => ∃ a2 c2, r = .returned ((madeE (putG by_) e).val a2 c2) ∧ ExK w.heap.size w' a2 c2 (madeE (putG by_) e).args ∧ Below w.heap.size w w' :=
  made_all (Q := fun x => goodE x ∧ usesB x by_.length = true)
    (fun x hq h1 => by
      have h1 : x.op = 1 := h1
      have e1 : (nodeG (putG by_) x).n = x.n := by show (if x.op == 1 then x.n else 0) = x.n; rw [h1]; rfl
      rw [e1]
      exact ⟨col_nat hq.1 h1, uses_col hq.2 h1⟩)
    (fun x y i hq hy => ⟨good_arg hq.1 hy, uses_arg hq.2 hy⟩) e.size e (Nat.le_refl _) (meas_short soundE e 400 40 (by omega) hbe) ⟨built_good hbe, hu⟩ a c w ha (by_put by_ hb hbf hbl B aB cB w hB hA)
end Go.Proofs.YtmagpdblacgneaaGreat
set_option linter.unusedSimpArgs false
set_option linter.unusedVariables false
namespace Go.Proofs.YtmagpdblacgneaaGreat
open Go.RowKit Go.Sort

/-- May it be put in? -/
def okP (by_ : List Ex) (e : Ex) : Bool := builtE e && (!(by_.any fun e => !builtE e)) && usesB e by_.length && builtE (madeE (putG by_) e)
theorem okP_last {by_ : List Ex} {e : Ex} (h : builtE (madeE (putG by_) e) = false) : okP by_ e = false := by unfold okP; rw [h]; simp
/-- The error of Put. -/
def errP (by_ : List Ex) (e : Ex) : Int := if builtE e && (!(by_.any fun e => !builtE e)) && usesB e by_.length then 3 else 1
/-- What Put answers. -/
def PutPost (by_ : List Ex) (e : Ex) (w : World) (r : Ending) (w' : World) : Prop :=
  (builtE e = true ∧ (∀ x ∈ by_, builtE x = true) ∧ usesB e by_.length = true ∧ builtE (madeE (putG by_) e) = true ∧ ∃ a2 c2, r = .returned (.tuple #[(madeE (putG by_) e).val a2 c2, .int .i64 0]) ∧ Ex.all w' a2 (madeE (putG by_) e).args ∧ Below w.heap.size w w') ∨
  (∃ er : Int, er ≠ 0 ∧ okP by_ e = false ∧ r = .returned (.tuple #[zeroE.val none 0, .int .i64 er]) ∧ Below w.heap.size w w')
/-- What Put answers, with its error. -/
def PutPost2 (by_ : List Ex) (e : Ex) (w : World) (r : Ending) (w' : World) : Prop :=
  (builtE e = true ∧ (∀ x ∈ by_, builtE x = true) ∧ usesB e by_.length = true ∧ builtE (madeE (putG by_) e) = true ∧ ∃ a2 c2, r = .returned (.tuple #[(madeE (putG by_) e).val a2 c2, .int .i64 0]) ∧ ExK w.heap.size w' a2 c2 (madeE (putG by_) e).args ∧ Below w.heap.size w w') ∨
  (okP by_ e = false ∧ r = .returned (.tuple #[zeroE.val none 0, .int .i64 (errP by_ e)]) ∧ Below w.heap.size w w')
set_option maxHeartbeats 1000000 in
set_option maxRecDepth 100000 in
/-- Put (10). -/
theorem put_err (by_ : List Ex) (hbf : Ex.fins by_) (hbl : by_.length ≤ 140737488355328) (aB : Option Addr) (cB : Nat) (e : Ex) (hf : e.fin) (a : Option Addr) (c : Nat) (w : World) (ha : Ex.all w a e.args) (hA : Ex.all w aB by_) :
    Calls Tryz.prog 8 #[e.val a c, .slice aB by_.length cB] w (PutPost2 by_ e w) := by
  have HB := hide (fun (W : World) (hW : Below w.heap.size w W) => built_any e hf a c W (Ex.all_later _ ha hW))
  have HN := hide (fun (W : World) (hW : Below w.heap.size w W) => containsE_any (.func (.func 27) #[] #[]) (fun e => !builtE e) aB cB by_ W hbl hbf (Ex.all_later _ hA hW) (test_notbuilt W))
  have HU := hide (fun (hb : builtE e = true) (W : World) (hW : Below w.heap.size w W) => uses_any e (built_good hb) hf (built_bounds hb).1 by_.length a c W (Ex.all_later _ ha hW))
  have HM := hide (fun (hb : ∀ x ∈ by_, builtE x = true) (hbe : builtE e = true) (hu : usesB e by_.length = true) (B : Nat) (W : World) (hW : Below w.heap.size w W) (hB : Box1 W B (.slice aB by_.length cB)) => made_put by_ hb hbf hbl B aB cB e hbe hf hu a c W (Ex.all_later _ ha hW) hB (Ex.all_later _ hA hW))
  have HFB := hide (fun (hb : ∀ x ∈ by_, builtE x = true) (hbe : builtE e = true) (hu : usesB e by_.length = true) (a' : Option Addr) (c' : Nat) (W : World) (h : Ex.all W a' (madeE (putG by_) e).args) => built_any (madeE (putG by_) e) (put_fin by_ hb hbf e (built_good hbe) hu hf) a' c' W h)
  obtain ⟨wa, hwa⟩ : ∃ wa, wa = (((w.alloc (.cells #[.int .i64 e.op, .int .i64 e.n, .int .i64 e.v.k, .int .i64 e.v.n, .string e.v.s, .slice a e.args.length c] 26)).alloc (.cells #[.slice aB by_.length cB] 24)).alloc (.cells #[.int .i64 0, .int .i64 0, .int .i64 0, .int .i64 0, .string ⟨#[]⟩, .slice none 0 0] 26)) := ⟨_, rfl⟩
  have HBA : Hid (Below w.heap.size w wa) := by rw [hwa]; exact below_alloc (below_alloc (below_alloc (Below.refl _ w) _) _) _
  have H6 : Hid (Six wa w.heap.size e a c) := by rw [hwa]; exact (Six.new w e a c).later (below_alloc (below_alloc (Below.refl _ _) _) _)
  have HBX : Hid (wa.cell? ⟨w.heap.size + 1, 0, none⟩ = some (.slice aB by_.length cB)) := by rw [hwa]; show _ = _; simp [go_sem]
  have HZ : Hid (Box6 wa (w.heap.size + 2) zeroE none 0) := by
    have h := Box6.new ((w.alloc (.cells #[.int .i64 e.op, .int .i64 e.n, .int .i64 e.v.k, .int .i64 e.v.n, .string e.v.s, .slice a e.args.length c] 26)).alloc (.cells #[.slice aB by_.length cB] 24)) zeroE none 0
    rw [show ((w.alloc (.cells #[.int .i64 e.op, .int .i64 e.n, .int .i64 e.v.k, .int .i64 e.v.n, .string e.v.s, .slice a e.args.length c] 26)).alloc (.cells #[.slice aB by_.length cB] 24)).heap.size = w.heap.size + 2 by simp [go_sem]] at h
    rw [hwa]
    exact h
  have hsa : wa.heap.size = w.heap.size + 3 := by rw [hwa]; simp [go_sem]
  rw [Ex.val_open] at HB HU HM ⊢
  clear ha hA
  cases hb : builtE e with
  | false =>
    rw [hb] at HB
    have HOK : Hid (okP by_ e = false) := by show _ = _; unfold okP; rw [hb]; rfl
    have HER : Hid (errP by_ e = 1) := by show _ = _; unfold errP; rw [hb]; simp
    clear hb HN HU HM HFB
    go_enter Tryz.func8, Tryz.ntmps8
    go_upto_region 1 with fail
    rw [← hwa]
    clear hwa
    obtain ⟨b0, b1, b2, b3, b4, b5⟩ := unhide H6
    go_wp2_with (go_at_call 21; refine (unhide HB wa (unhide HBA)).mono ?_; rintro r w1 ⟨rfl, hb1⟩; have hB1 := below_step (unhide HBA) hb1; obtain ⟨b0, b1, b2, b3, b4, b5⟩ := (unhide H6).later hb1; have q0 := clater (unhide HBX) hb1; obtain ⟨⟨z0, z1, z2, z3, z4, z5⟩, f0, f1, f2, f3, f4, f5⟩ := (unhide HZ).later hb1)
    refine bodyPost_ret (v := .tuple #[zeroE.val none 0, .int .i64 1]) (by simp [results, Tryz.results8, go_sem, Ex.val, Ex.op, Ex.n, Ex.v, Ex.args, Val.null, *]) rfl (.inr ⟨unhide HOK, by rw [unhide HER], ?_⟩)
    exact put6 hB1 (by omega) _ _ _ _ _ _
  | true =>
    have HU := hide (unhide HU hb)
    rw [hb] at HB
    cases hn : by_.any (fun e => !builtE e) with
    | true =>
      rw [hn] at HN
      have HOK : Hid (okP by_ e = false) := by show _ = _; unfold okP; rw [hn]; simp
      have HER : Hid (errP by_ e = 1) := by show _ = _; unfold errP; rw [hn]; simp
      clear hb hn HU HM HFB
      go_enter Tryz.func8, Tryz.ntmps8
      go_upto_region 1 with fail
      rw [← hwa]
      clear hwa
      obtain ⟨b0, b1, b2, b3, b4, b5⟩ := unhide H6
      go_wp2_with (first
        | (go_at_call 26; refine (unhide HN w1 hB1).mono ?_; rintro r w2 ⟨rfl, hb2⟩; have hB2 := below_step hB1 hb2; have hb12 := below_step hb1 hb2; obtain ⟨b0, b1, b2, b3, b4, b5⟩ := (unhide H6).later hb12; have q0 := clater (unhide HBX) hb12; obtain ⟨⟨z0, z1, z2, z3, z4, z5⟩, f0, f1, f2, f3, f4, f5⟩ := (unhide HZ).later hb12)
        | (go_at_call 21; refine (unhide HB wa (unhide HBA)).mono ?_; rintro r w1 ⟨rfl, hb1⟩; have hB1 := below_step (unhide HBA) hb1; obtain ⟨b0, b1, b2, b3, b4, b5⟩ := (unhide H6).later hb1; have q0 := clater (unhide HBX) hb1; obtain ⟨⟨z0, z1, z2, z3, z4, z5⟩, f0, f1, f2, f3, f4, f5⟩ := (unhide HZ).later hb1))
      refine bodyPost_ret (v := .tuple #[zeroE.val none 0, .int .i64 1]) (by simp [results, Tryz.results8, go_sem, Ex.val, Ex.op, Ex.n, Ex.v, Ex.args, Val.null, *]) rfl (.inr ⟨unhide HOK, by rw [unhide HER], ?_⟩)
      exact put6 hB2 (by omega) _ _ _ _ _ _
    | false =>
      have hall : ∀ x ∈ by_, builtE x = true := fun x hx => by
        have := List.any_eq_false.1 hn x hx
        simpa using this
      rw [hn] at HN
      cases hu : usesB e by_.length with
      | false =>
        rw [hu] at HU
        have HOK : Hid (okP by_ e = false) := by show _ = _; unfold okP; rw [hu]; simp
        have HER : Hid (errP by_ e = 1) := by show _ = _; unfold errP; rw [hu]; simp
        clear hb hn hu HM HFB hall
        go_enter Tryz.func8, Tryz.ntmps8
        go_upto_region 1 with fail
        rw [← hwa]
        clear hwa
        obtain ⟨b0, b1, b2, b3, b4, b5⟩ := unhide H6
        go_wp2_with (first
          | (go_at_call 28; refine (unhide HU w2 hB2).mono ?_; rintro r w3 ⟨rfl, hb3⟩; have hB3 := below_step hB2 hb3; have hb13 := below_step hb12 hb3; obtain ⟨b0, b1, b2, b3, b4, b5⟩ := (unhide H6).later hb13; have q0 := clater (unhide HBX) hb13; obtain ⟨⟨z0, z1, z2, z3, z4, z5⟩, f0, f1, f2, f3, f4, f5⟩ := (unhide HZ).later hb13)
          | (go_at_call 26; refine (unhide HN w1 hB1).mono ?_; rintro r w2 ⟨rfl, hb2⟩; have hB2 := below_step hB1 hb2; have hb12 := below_step hb1 hb2; obtain ⟨b0, b1, b2, b3, b4, b5⟩ := (unhide H6).later hb12; have q0 := clater (unhide HBX) hb12; obtain ⟨⟨z0, z1, z2, z3, z4, z5⟩, f0, f1, f2, f3, f4, f5⟩ := (unhide HZ).later hb12)
          | (go_at_call 21; refine (unhide HB wa (unhide HBA)).mono ?_; rintro r w1 ⟨rfl, hb1⟩; have hB1 := below_step (unhide HBA) hb1; obtain ⟨b0, b1, b2, b3, b4, b5⟩ := (unhide H6).later hb1; have q0 := clater (unhide HBX) hb1; obtain ⟨⟨z0, z1, z2, z3, z4, z5⟩, f0, f1, f2, f3, f4, f5⟩ := (unhide HZ).later hb1))
        refine bodyPost_ret (v := .tuple #[zeroE.val none 0, .int .i64 1]) (by simp [results, Tryz.results8, go_sem, Ex.val, Ex.op, Ex.n, Ex.v, Ex.args, Val.null, *]) rfl (.inr ⟨unhide HOK, by rw [unhide HER], ?_⟩)
        exact put6 hB3 (by omega) _ _ _ _ _ _
      | true =>
        rw [hu] at HU
        have HM2 := hide (unhide HM hall hb hu (w.heap.size + 1))
        have HF2 := hide (unhide HFB hall hb hu)
        have HALL : Hid (builtE e = true ∧ (∀ x ∈ by_, builtE x = true) ∧ usesB e by_.length = true) := ⟨hb, hall, hu⟩
        have HER : Hid (errP by_ e = 3) := by show _ = _; unfold errP; rw [hb, hn, hu]; rfl
        clear hb hn hu HM HFB hall
        go_enter Tryz.func8, Tryz.ntmps8
        go_upto_region 1 with fail
        rw [← hwa]
        clear hwa
        obtain ⟨b0, b1, b2, b3, b4, b5⟩ := unhide H6
        obtain ⟨f, hfe⟩ : ∃ f, f = madeE (putG by_) e := ⟨_, rfl⟩
        rw [← hfe] at HM2 HF2
        have HFE := hide hfe
        clear hfe
        cases hbb : builtE f with
        | true =>
          rw [hbb] at HF2
          have HBB := hide hbb
          clear hbb
          go_wp2_with (first
            | (go_at_call 21; refine (unhide HF2 a2 c2 (w4.alloc (.cells #[.int .i64 f.op, .int .i64 f.n, .int .i64 f.v.k, .int .i64 f.v.n, .string f.v.s, .slice a2 f.args.length c2] 26)) (Ex.all_later _ (unhide HK4).now (below_alloc (Below.refl _ w4) _))).mono ?_; rintro r w5 ⟨rfl, hb5⟩; have hb45 := below_step (below_alloc (Below.refl _ w4) (.cells #[.int .i64 f.op, .int .i64 f.n, .int .i64 f.v.k, .int .i64 f.v.n, .string f.v.s, .slice a2 f.args.length c2] 26)) hb5; have hB5 := below_step hB4 hb45; have hb15 := below_step hb14 hb45; obtain ⟨g0, g1, g2, g3, g4, g5⟩ := (Six.new w4 f a2 c2).later hb5; obtain ⟨⟨z0, z1, z2, z3, z4, z5⟩, f0, f1, f2, f3, f4, f5⟩ := (unhide HZ).later hb15)
            | (go_at_call 23; refine (unhide HM2 w3 hB3 q0).mono ?_; rintro r w4 ⟨a2, c2, rfl, hK4, hb4⟩; have hB4 := below_step hB3 hb4; have HK4 := hide hK4; have hb14 := below_step hb13 hb4; clear hK4; rw [Ex.val_open])
            | (go_at_call 28; refine (unhide HU w2 hB2).mono ?_; rintro r w3 ⟨rfl, hb3⟩; have hB3 := below_step hB2 hb3; have hb13 := below_step hb12 hb3; obtain ⟨b0, b1, b2, b3, b4, b5⟩ := (unhide H6).later hb13; have q0 := clater (unhide HBX) hb13; obtain ⟨⟨z0, z1, z2, z3, z4, z5⟩, f0, f1, f2, f3, f4, f5⟩ := (unhide HZ).later hb13)
            | (go_at_call 26; refine (unhide HN w1 hB1).mono ?_; rintro r w2 ⟨rfl, hb2⟩; have hB2 := below_step hB1 hb2; have hb12 := below_step hb1 hb2; obtain ⟨b0, b1, b2, b3, b4, b5⟩ := (unhide H6).later hb12; have q0 := clater (unhide HBX) hb12; obtain ⟨⟨z0, z1, z2, z3, z4, z5⟩, f0, f1, f2, f3, f4, f5⟩ := (unhide HZ).later hb12)
            | (go_at_call 21; refine (unhide HB wa (unhide HBA)).mono ?_; rintro r w1 ⟨rfl, hb1⟩; have hB1 := below_step (unhide HBA) hb1; obtain ⟨b0, b1, b2, b3, b4, b5⟩ := (unhide H6).later hb1; have q0 := clater (unhide HBX) hb1; obtain ⟨⟨z0, z1, z2, z3, z4, z5⟩, f0, f1, f2, f3, f4, f5⟩ := (unhide HZ).later hb1))
          have hE := put6 hB5 (B := w.heap.size + 2) (by omega) (.int .i64 f.op) (.int .i64 f.n) (.int .i64 f.v.k) (.int .i64 f.v.n) (.string f.v.s) (.slice a2 f.args.length c2)
          have hs3 := hb13.size
          refine bodyPost_ret (v := .tuple #[f.val a2 c2, .int .i64 0]) (by simp [results, Tryz.results8, go_sem, Ex.val, *]) rfl (.inl ⟨(unhide HALL).1, (unhide HALL).2.1, (unhide HALL).2.2, by rw [← unhide HFE]; exact unhide HBB, a2, c2, by rw [← unhide HFE], ?_, hE⟩)
          rw [← unhide HFE]
          refine ((((unhide HK4).on (Kept.of_below _ _ hb45)).on ((((((Kept.of_low _ _ _ _ ?_).trans (Kept.of_low _ _ _ _ ?_)).trans (Kept.of_low _ _ _ _ ?_)).trans (Kept.of_low _ _ _ _ ?_)).trans (Kept.of_low _ _ _ _ ?_)).trans (Kept.of_low _ _ _ _ ?_))).more ?_) <;> omega
        | false =>
          rw [hbb] at HF2
          have HBB := hide hbb
          clear hbb
          go_wp2_with (first
            | (go_at_call 21; refine (unhide HF2 a2 c2 (w4.alloc (.cells #[.int .i64 f.op, .int .i64 f.n, .int .i64 f.v.k, .int .i64 f.v.n, .string f.v.s, .slice a2 f.args.length c2] 26)) (Ex.all_later _ (unhide HK4).now (below_alloc (Below.refl _ w4) _))).mono ?_; rintro r w5 ⟨rfl, hb5⟩; have hb45 := below_step (below_alloc (Below.refl _ w4) (.cells #[.int .i64 f.op, .int .i64 f.n, .int .i64 f.v.k, .int .i64 f.v.n, .string f.v.s, .slice a2 f.args.length c2] 26)) hb5; have hB5 := below_step hB4 hb45; have hb15 := below_step hb14 hb45; obtain ⟨g0, g1, g2, g3, g4, g5⟩ := (Six.new w4 f a2 c2).later hb5; obtain ⟨⟨z0, z1, z2, z3, z4, z5⟩, f0, f1, f2, f3, f4, f5⟩ := (unhide HZ).later hb15)
            | (go_at_call 23; refine (unhide HM2 w3 hB3 q0).mono ?_; rintro r w4 ⟨a2, c2, rfl, hK4, hb4⟩; have hB4 := below_step hB3 hb4; have HK4 := hide hK4; have hb14 := below_step hb13 hb4; clear hK4; rw [Ex.val_open])
            | (go_at_call 28; refine (unhide HU w2 hB2).mono ?_; rintro r w3 ⟨rfl, hb3⟩; have hB3 := below_step hB2 hb3; have hb13 := below_step hb12 hb3; obtain ⟨b0, b1, b2, b3, b4, b5⟩ := (unhide H6).later hb13; have q0 := clater (unhide HBX) hb13; obtain ⟨⟨z0, z1, z2, z3, z4, z5⟩, f0, f1, f2, f3, f4, f5⟩ := (unhide HZ).later hb13)
            | (go_at_call 26; refine (unhide HN w1 hB1).mono ?_; rintro r w2 ⟨rfl, hb2⟩; have hB2 := below_step hB1 hb2; have hb12 := below_step hb1 hb2; obtain ⟨b0, b1, b2, b3, b4, b5⟩ := (unhide H6).later hb12; have q0 := clater (unhide HBX) hb12; obtain ⟨⟨z0, z1, z2, z3, z4, z5⟩, f0, f1, f2, f3, f4, f5⟩ := (unhide HZ).later hb12)
            | (go_at_call 21; refine (unhide HB wa (unhide HBA)).mono ?_; rintro r w1 ⟨rfl, hb1⟩; have hB1 := below_step (unhide HBA) hb1; obtain ⟨b0, b1, b2, b3, b4, b5⟩ := (unhide H6).later hb1; have q0 := clater (unhide HBX) hb1; obtain ⟨⟨z0, z1, z2, z3, z4, z5⟩, f0, f1, f2, f3, f4, f5⟩ := (unhide HZ).later hb1))
          refine bodyPost_ret (v := .tuple #[zeroE.val none 0, .int .i64 3]) (by simp [results, Tryz.results8, go_sem, Ex.val, Ex.op, Ex.n, Ex.v, Ex.args, Val.null, *]) rfl (.inr ⟨okP_last (by rw [← unhide HFE]; exact unhide HBB), by rw [unhide HER], ?_⟩)
          exact put6 hB5 (by omega) _ _ _ _ _ _
theorem errP_ne (by_ : List Ex) (e : Ex) : errP by_ e ≠ 0 := by unfold errP; split <;> decide
theorem put_any (by_ : List Ex) (hbf : Ex.fins by_) (hbl : by_.length ≤ 140737488355328) (aB : Option Addr) (cB : Nat) (e : Ex) (hf : e.fin) (a : Option Addr) (c : Nat) (w : World) (ha : Ex.all w a e.args) (hA : Ex.all w aB by_) :
    Calls Tryz.prog 8 #[e.val a c, .slice aB by_.length cB] w (PutPost by_ e w) := (put_err by_ hbf hbl aB cB e hf a c w ha hA).mono fun r w' h => h.elim (fun ⟨h1, h2, h3, h4, a2, c2, h5, h6, h7⟩ => .inl ⟨h1, h2, h3, h4, a2, c2, h5, h6.now, h7⟩) fun ⟨h1, h2, h3⟩ => .inr ⟨_, errP_ne by_ e, h1, h2, h3⟩
end Go.Proofs.YtmagpdblacgneaaGreat

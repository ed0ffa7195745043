import Derived.Test.YtfnacpkodfhfoadExF
set_option linter.unusedSimpArgs false
set_option linter.unusedVariables false
namespace Go.Proofs.Ytfnacpkodfhfoad
open Go.RowKit Go.Sort

mutual
/-- Each node is one that may be. -/
def goodE : Ex → Prop
  | .mk op n v l => soundE (.mk op n v l) = true ∧ goodL l
def goodL : List Ex → Prop
  | [] => True
  | e :: l => goodE e ∧ goodL l
end
theorem good_open {e : Ex} (h : goodE e) : soundE e = true ∧ goodL e.args := by
  cases e with
  | mk op n v l => rw [goodE] at h; exact h
theorem goodL_mem : ∀ {l : List Ex} {x : Ex}, goodL l → x ∈ l → goodE x
  | [], _, _, h => by cases h
  | e :: l, x, hf, h => by
    rw [goodL] at hf
    rcases List.mem_cons.1 h with rfl | h
    · exact hf.1
    · exact goodL_mem hf.2 h
theorem good_arg {e x : Ex} {i : Nat} (h : goodE e) (hx : e.args[i]? = some x) : goodE x := goodL_mem (good_open h).2 (List.mem_of_getElem? hx)
mutual
theorem meas_good : ∀ (e : Ex) (N H : Int), (measE soundE e N H).2.2 = true → goodE e
  | .mk op n v l, N, H, he => by
    rw [measE] at he
    split at he
    · cases he
    · rename_i hc
      simp only [Bool.or_eq_true, Bool.not_eq_true', not_or] at hc
      cases hm : measL soundE l N H 1 0 with
      | none => rw [hm] at he; cases he
      | some q =>
        rw [goodE]
        exact ⟨by simpa using hc.2, measL_good l N H 1 0 (by rw [hm]; rfl)⟩
theorem measL_good : ∀ (l : List Ex) (N H c h : Int), (measL soundE l N H c h).isSome = true → goodL l
  | [], N, H, c, h, he => by rw [goodL]; trivial
  | e :: l, N, H, c, h, he => by
    rw [measL] at he
    split at he
    · rename_i hok
      rw [goodL]
      exact ⟨meas_good e _ _ hok, measL_good l _ _ _ _ he⟩
    · cases he
end
theorem built_good {e : Ex} (h : builtE e = true) : goodE e := meas_good e _ _ h
theorem sound_len {e : Ex} (h : soundE e = true) : (e.args.length : Int) = arI e.op := by
  unfold soundE at h
  simp only [Bool.and_eq_true, beq_iff_eq] at h
  exact h.1
theorem two_args {e : Ex} (h : goodE e) (ho : arI e.op = 2) : ∃ x y, e.args = [x, y] := by
  have hl := sound_len (good_open h).1
  rw [ho] at hl
  match he : e.args, hl with
  | [x, y], _ => exact ⟨x, y, rfl⟩
  | [], hl => simp at hl
  | [_], hl => simp at hl
  | _ :: _ :: _ :: _, hl => simp at hl; omega
mutual
/-- Certainly not true where these columns are null. -/
def ntE (cols : List Int) : Ex → Bool
  | .mk op n v l => if op == 2 then !trueB v else if op == 19 then ntO cols l else if op == 20 then ntA cols l else anE cols (.mk op n v l)
def ntO (cols : List Int) : List Ex → Bool
  | [] => false
  | x :: l => ntE cols x || ntH cols l
def ntA (cols : List Int) : List Ex → Bool
  | [] => false
  | x :: l => ntE cols x && ntH cols l
def ntH (cols : List Int) : List Ex → Bool
  | [] => false
  | y :: _ => ntE cols y
end
theorem ntE_eq (cols : List Int) (e : Ex) : ntE cols e = if e.op == 2 then !trueB e.v else if e.op == 19 then ntO cols e.args else if e.op == 20 then ntA cols e.args else anE cols e := by
  cases e with
  | mk op n v l => rw [ntE]; rfl
theorem nt_two (cols : List Int) (x y : Ex) : ntO cols [x, y] = (ntE cols x || ntE cols y) ∧ ntA cols [x, y] = (ntE cols x && ntE cols y) := by
  rw [ntO, ntA, ntH]; exact ⟨rfl, rfl⟩
set_option maxHeartbeats 1000000 in
set_option maxRecDepth 100000 in
theorem never_step (cols : List Int) (e : Ex) (hf : e.fin) (hg : goodE e) (aC : Option Addr) (cC : Nat) (a : Option Addr) (c : Nat) (w : World) (hl : cols.length ≤ 140737488355328) (hC : IntsAt w aC cols) (ha : Ex.all w a e.args)
    (IH : ∀ (i : Nat) (x : Ex), e.args[i]? = some x → ∀ (a' : Option Addr) (c' : Nat) (W : World), IntsAt W aC cols → Ex.all W a' x.args → Calls Try.prog 14 #[x.val a' c', .slice aC cols.length cC] W fun r w' => r = .returned (.bool (ntE cols x)) ∧ Below W.heap.size W w') :
    Calls Try.prog 14 #[e.val a c, .slice aC cols.length cC] w fun r w' => r = .returned (.bool (ntE cols e)) ∧ Below w.heap.size w w' := by
  have hBa := below_alloc (Below.refl _ w) (.cells #[.int .i64 e.op, .int .i64 e.n, .int .i64 e.v.k, .int .i64 e.v.n, .string e.v.s, .slice a e.args.length c] 26)
  have h6 : Six (w.alloc (.cells #[.int .i64 e.op, .int .i64 e.n, .int .i64 e.v.k, .int .i64 e.v.n, .string e.v.s, .slice a e.args.length c] 26)) w.heap.size e a c := Six.new w e a c
  have HAN := hide (always_all cols aC cC hl e.size e (Nat.le_refl _) hf a c (w.alloc (.cells #[.int .i64 e.op, .int .i64 e.n, .int .i64 e.v.k, .int .i64 e.v.n, .string e.v.s, .slice a e.args.length c] 26)) (hC.later hBa) (Ex.all_later _ ha hBa))
  have HTR := hide (true_any e.v)
  have HIC := hide (fun W (hW : Below w.heap.size w W) => hC.later hW)
  have HIA := hide (fun W (hW : Below w.heap.size w W) => Ex.all_later _ ha hW)
  have HIH := hide IH
  have HG := hide hg
  obtain ⟨R, hR⟩ : ∃ R, R = ntE cols e := ⟨_, rfl⟩
  have HR : Hid (R = if e.op == 2 then !trueB e.v else if e.op == 19 then ntO cols e.args else if e.op == 20 then ntA cols e.args else anE cols e) := by rw [hR]; exact ntE_eq cols e
  rw [← hR]
  generalize anE cols e = rA at *
  have HB := hide hBa
  have H6 := hide h6
  rw [Ex.val_open] at HAN ⊢
  rw [Val.open_] at HTR
  obtain ⟨c0, c1, c2, c3, c4, c5⟩ := h6
  clear hR hBa ha hC IH hg
  rcases Bool.eq_false_or_eq_true (e.op == 2) with h2 | h2
  · rw [h2] at HR
    go_enter Try.func14, Try.ntmps14
    go_wp2_with (go_at_call 7; refine (unhide HTR _).mono ?_; rintro r w1 ⟨rfl, hb1⟩)
    go_ret
    exact ⟨by rw [unhide HR]; simp, below_one hb1⟩
  rw [h2] at HR
  rcases Bool.eq_false_or_eq_true (e.op == 19) with h19 | h19
  · rw [h19] at HR
    have ho : arI e.op = 2 := by have : e.op = 19 := by simpa using h19
                                 rw [this]; rfl
    obtain ⟨x, y, hxy⟩ := two_args (unhide HG) ho
    rw [hxy, (nt_two cols x y).1] at HR
    have HX := hide (unhide HIH 0 x (by rw [hxy]; rfl))
    have HY := hide (unhide HIH 1 y (by rw [hxy]; rfl))
    have hln : e.args.length = 2 := by rw [hxy]; rfl
    have HALL := hide (fun W hW => Ex.all_get (i := 0) (e := x) (unhide HIA W hW) (by rw [hxy]; rfl))
    have HALY := hide (fun W hW => Ex.all_get (i := 1) (e := y) (unhide HIA W hW) (by rw [hxy]; rfl))
    obtain ⟨vb, vo, ea, hx0⟩ := unhide HALL _ (unhide HB)
    obtain ⟨a1, cc1, ⟨d0, d1, d2, d3, d4, d5⟩, hal1⟩ := Ex.at_open hx0
    rw [Nat.zero_mul, Nat.add_zero] at d0 d1 d2 d3 d4 d5
    have HXC := hide (unhide HX a1 cc1 _ (unhide HIC _ (unhide HB)) hal1)
    rw [Ex.val_open] at HXC
    subst ea
    rw [hln] at c0 c1 c2 c3 c4 c5 d0 d1 d2 d3 d4 d5 HXC H6 ⊢
    generalize hrx : ntE cols x = rx at *
    generalize hry : ntE cols y = ry at *
    clear hal1 hx0 hxy hrx hry ho HX
    cases rx with
    | true =>
      go_enter Try.func14, Try.ntmps14
      go_wp2_with (go_at_call 14; refine (unhide HXC).mono ?_; rintro r w1 ⟨rfl, hb1⟩)
      go_ret
      exact ⟨by rw [unhide HR]; simp, below_one hb1⟩
    | false =>
      go_enter Try.func14, Try.ntmps14
      go_wp2_with (first
        | (go_at_call 14; refine (unhide HYC).mono ?_; rintro r w2 ⟨rfl, hb2⟩)
        | (go_at_call 14; refine (unhide HXC).mono ?_; rintro r w1 ⟨rfl, hb1⟩; have hB1 := below_one hb1; obtain ⟨b0, b1, b2, b3, b4, b5⟩ := (unhide H6).later hb1; rw [hln] at b5; obtain ⟨vb2, vo2, ea2, hy0⟩ := unhide HALY w1 hB1; obtain ⟨a2, cc2, ⟨d0, d1, d2, d3, d4, d5⟩, hal2⟩ := Ex.at_open hy0; injection ea2 with ea2; injection ea2 with ea3 ea4; subst ea3 ea4; rw [Nat.one_mul] at d0 d1 d2 d3 d4 d5; have HYC := hide (unhide HY a2 cc2 w1 (unhide HIC _ hB1) hal2); rw [Ex.val_open] at HYC; clear hal2 hy0))
      go_ret
      exact ⟨by rw [unhide HR]; simp, below_step hB1 hb2⟩
  rw [h19] at HR
  rcases Bool.eq_false_or_eq_true (e.op == 20) with h20 | h20
  · rw [h20] at HR
    have ho : arI e.op = 2 := by have : e.op = 20 := by simpa using h20
                                 rw [this]; rfl
    obtain ⟨x, y, hxy⟩ := two_args (unhide HG) ho
    rw [hxy, (nt_two cols x y).2] at HR
    have HX := hide (unhide HIH 0 x (by rw [hxy]; rfl))
    have HY := hide (unhide HIH 1 y (by rw [hxy]; rfl))
    have hln : e.args.length = 2 := by rw [hxy]; rfl
    have HALL := hide (fun W hW => Ex.all_get (i := 0) (e := x) (unhide HIA W hW) (by rw [hxy]; rfl))
    have HALY := hide (fun W hW => Ex.all_get (i := 1) (e := y) (unhide HIA W hW) (by rw [hxy]; rfl))
    obtain ⟨vb, vo, ea, hx0⟩ := unhide HALL _ (unhide HB)
    obtain ⟨a1, cc1, ⟨d0, d1, d2, d3, d4, d5⟩, hal1⟩ := Ex.at_open hx0
    rw [Nat.zero_mul, Nat.add_zero] at d0 d1 d2 d3 d4 d5
    have HXC := hide (unhide HX a1 cc1 _ (unhide HIC _ (unhide HB)) hal1)
    rw [Ex.val_open] at HXC
    subst ea
    rw [hln] at c0 c1 c2 c3 c4 c5 d0 d1 d2 d3 d4 d5 HXC H6 ⊢
    generalize hrx : ntE cols x = rx at *
    generalize hry : ntE cols y = ry at *
    clear hal1 hx0 hxy hrx hry ho HX
    cases rx with
    | false =>
      go_enter Try.func14, Try.ntmps14
      go_wp2_with (go_at_call 14; refine (unhide HXC).mono ?_; rintro r w1 ⟨rfl, hb1⟩)
      go_ret
      exact ⟨by rw [unhide HR]; simp, below_one hb1⟩
    | true =>
      go_enter Try.func14, Try.ntmps14
      go_wp2_with (first
        | (go_at_call 14; refine (unhide HYC).mono ?_; rintro r w2 ⟨rfl, hb2⟩)
        | (go_at_call 14; refine (unhide HXC).mono ?_; rintro r w1 ⟨rfl, hb1⟩; have hB1 := below_one hb1; obtain ⟨b0, b1, b2, b3, b4, b5⟩ := (unhide H6).later hb1; rw [hln] at b5; obtain ⟨vb2, vo2, ea2, hy0⟩ := unhide HALY w1 hB1; obtain ⟨a2, cc2, ⟨d0, d1, d2, d3, d4, d5⟩, hal2⟩ := Ex.at_open hy0; injection ea2 with ea2; injection ea2 with ea3 ea4; subst ea3 ea4; rw [Nat.one_mul] at d0 d1 d2 d3 d4 d5; have HYC := hide (unhide HY a2 cc2 w1 (unhide HIC _ hB1) hal2); rw [Ex.val_open] at HYC; clear hal2 hy0))
      go_ret
      exact ⟨by rw [unhide HR]; simp, below_step hB1 hb2⟩
  rw [h20] at HR
  go_enter Try.func14, Try.ntmps14
  go_wp2_with (go_at_call 26; refine (unhide HAN).mono ?_; rintro r w1 ⟨rfl, hb1⟩)
  go_ret
  exact ⟨by rw [unhide HR]; simp, below_one hb1⟩
theorem never_all (cols : List Int) (aC : Option Addr) (cC : Nat) (hl : cols.length ≤ 140737488355328) : ∀ (k : Nat) (e : Ex), e.size ≤ k → e.fin → goodE e → ∀ (a : Option Addr) (c : Nat) (w : World), IntsAt w aC cols → Ex.all w a e.args →
    Calls Try.prog 14 #[e.val a c, .slice aC cols.length cC] w fun r w' => r = .returned (.bool (ntE cols e)) ∧ Below w.heap.size w w'
  | 0, e, hs, _, _, _, _, _, _, _ => by rw [Ex.size_mk] at hs; omega
  | k + 1, e, hs, hf, hg, a, c, w, hC, ha => never_step cols e hf hg aC cC a c w hl hC ha fun i x hx a' c' W h1 h2 => never_all cols aC cC hl k x (by have := Ex.size_arg hx; omega) (Ex.fin_arg hf hx) (good_arg hg hx) a' c' W h1 h2
end Go.Proofs.Ytfnacpkodfhfoad

import Derived.Test.YtmjeiepljlepbacGreatExE
import Derived.Test.YtmjeiepljlepbacGreatCellS
set_option linter.unusedSimpArgs false
set_option linter.unusedVariables false
namespace Go.Proofs.YtmjeiepljlepbacGreat
open Go.RowKit Go.Sort

mutual
/-- Certainly null where these columns are. -/
def anE (cols : List Int) : Ex → Bool
  | .mk op n v l => if op == 1 then cols.any (fun x => n == x) else if op == 2 then (cleanV v).k == 0 else if op == 5 || op == 19 || op == 20 || op == 21 then false else anL cols l
def anL (cols : List Int) : List Ex → Bool
  | [] => false
  | e :: l => anE cols e || anL cols l
end
theorem anL_any (cols : List Int) : ∀ l : List Ex, anL cols l = l.any (anE cols)
  | [] => by rw [anL]; rfl
  | e :: l => by rw [anL, anL_any cols l]; rfl
theorem anE_eq (cols : List Int) (e : Ex) : anE cols e = if e.op == 1 then cols.any (fun x => e.n == x) else if e.op == 2 then (cleanV e.v).k == 0 else if e.op == 5 || e.op == 19 || e.op == 20 || e.op == 21 then false else e.args.any (anE cols) := by
  cases e with
  | mk op n v l => rw [anE, anL_any]; rfl
theorem any_noK {α : Type} {p : α → Bool} {l : List α} {k : Nat} (hk : k = l.length) (h : ∀ i x, i < k → l[i]? = some x → p x = false) : l.any p = false := by
  rw [List.any_eq_false]
  intro y hy
  obtain ⟨i, hi⟩ := List.mem_iff_getElem?.1 hy
  rw [h i y (by rw [hk]; exact (List.getElem?_eq_some_iff.1 hi).1) hi]; simp
theorem any_yes {α : Type} {p : α → Bool} {l : List α} {k : Nat} {x : α} (hx : l[k]? = some x) (hp : p x = true) : l.any p = true := List.any_eq_true.2 ⟨x, List.mem_of_getElem? hx, hp⟩
set_option maxHeartbeats 1000000 in
set_option maxRecDepth 100000 in
theorem cnull_step (cols : List Int) (e : Ex) (hf : e.fin) (aC : Option Addr) (cC : Nat) (a : Option Addr) (c : Nat) (w : World) (hl : cols.length ≤ 140737488355328) (hC : IntsAt w aC cols) (ha : Ex.all w a e.args)
    (IH : ∀ (i : Nat) (x : Ex), e.args[i]? = some x → ∀ (a' : Option Addr) (c' : Nat) (W : World), IntsAt W aC cols → Ex.all W a' x.args → Calls Tryz.prog 117 #[x.val a' c', .slice aC cols.length cC] W fun r w' => r = .returned (.bool (anE cols x)) ∧ Below W.heap.size W w') :
    Calls Tryz.prog 117 #[e.val a c, .slice aC cols.length cC] w fun r w' => r = .returned (.bool (anE cols e)) ∧ Below w.heap.size w w' := by
  obtain ⟨⟨hel, hv, _, _⟩, _⟩ := Ex.fin_open hf
  obtain ⟨wa, hwa⟩ : ∃ wa, wa = w.alloc (.cells #[.int .i64 e.op, .int .i64 e.n, .int .i64 e.v.k, .int .i64 e.v.n, .string e.v.s, .slice a e.args.length c] 59) := ⟨_, rfl⟩
  have HB : Hid (Below w.heap.size w wa) := by rw [hwa]; exact below_alloc (Below.refl _ w) _
  have HS : Hid (Six wa w.heap.size e a c) := by rw [hwa]; exact Six.new w e a c
  have HC := hide (fun W (hW : Below wa.heap.size wa W) => hC.later (below_step (unhide HB) hW))
  have HA := hide (fun W (hW : Below wa.heap.size wa W) => Ex.all_later _ ha (below_step (unhide HB) hW))
  have HIH := hide IH
  have HCL := hide (rclean_any e.v)
  obtain ⟨R, hR⟩ : ∃ R, R = anE cols e := ⟨_, rfl⟩
  have HR : Hid (R = if e.op == 1 then cols.any (fun x => e.n == x) else if e.op == 2 then (cleanV e.v).k == 0 else if e.op == 5 || e.op == 19 || e.op == 20 || e.op == 21 then false else e.args.any (anE cols)) := by rw [hR]; exact anE_eq cols e
  rw [← hR]
  rw [Ex.val_open]
  rw [Val.open_] at HCL
  clear hR ha hC IH hf
  go_enter Tryz.func117, Tryz.ntmps117
  go_upto_region 1 with fail
  rw [← hwa]
  clear hwa
  obtain ⟨s0, s1, s2, s3, s4, s5⟩ := unhide HS
  rcases Bool.eq_false_or_eq_true (e.op == 1) with h1 | h1
  · have HR1 : Hid (R = cols.any (fun x => e.n == x)) := by have h := unhide HR; rw [h1] at h; exact h
    clear HR HIH HA HCL
    go_wp2
    go_loopw [15] (fun i wr => ∃ k : Nat, k ≤ cols.length ∧ i = .int .i64 (k : Int) ∧ Hid (∀ i x, i < k → cols[i]? = some x → (e.n == x) = false) ∧ Hid (Below wa.heap.size wa wr)) (fun i _ => cols.length - (intOf i).toNat)
    case atStart => exact ⟨0, Nat.zero_le _, rfl, fun i x hi => absurd hi (by omega), Below.refl _ _⟩
    case round =>
      obtain ⟨k, hk, rfl, HN, HBr⟩ := hrel
      obtain ⟨s0, s1, s2, s3, s4, s5⟩ := (unhide HS).later (unhide HBr)
      by_cases hlt : k < cols.length
      · have h9 : (k : Int) < (cols.length : Int) := by omega
        obtain ⟨x, hx⟩ : ∃ x, cols[k]? = some x := ⟨_, List.getElem?_eq_getElem hlt⟩
        obtain ⟨vb, vo, ea, d0⟩ := (unhide HC _ (unhide HBr)).get hx
        subst ea
        cases hp : (e.n == x)
        · have HE := hide (no_step (p := fun x => e.n == x) (unhide HN) hx hp)
          have hp2 : (x == e.n) = false := by rw [beq_eq_false_iff_ne] at hp ⊢; exact fun h => hp h.symm
          clear hx HN hp
          go_wp2
          exact ⟨⟨k + 1, by omega, by go_num, unhide HE, unhide HBr⟩, by simp [intOf]; omega⟩
        · have HE := hide (any_yes (p := fun x => e.n == x) hx hp)
          have hp2 : (x == e.n) = true := by rw [beq_iff_eq] at hp ⊢; exact hp.symm
          clear hx HN hp
          go_wp2
          go_ret
          exact ⟨by rw [unhide HR1]; rw [unhide HE]; rfl, below_step (unhide HB) (unhide HBr)⟩
      · have h9 : ¬ (k : Int) < (cols.length : Int) := by omega
        have HE := hide (any_noK (p := fun x => e.n == x) (show k = cols.length by omega) (unhide HN))
        go_wp2
        go_ret
        exact ⟨by rw [unhide HR1]; rw [unhide HE]; rfl, below_step (unhide HB) (unhide HBr)⟩
  rw [h1] at HR
  rcases Bool.eq_false_or_eq_true (e.op == 2) with h2 | h2
  · rw [h2] at HR
    clear HIH HA HC
    generalize cleanV e.v = cv at *
    have hf0 := field0
    go_wp2_with (go_at_call 97; refine (unhide HCL _).mono ?_; rintro r w1 ⟨rfl, hb1⟩; rw [Val.open_])
    go_ret
    exact ⟨by rw [unhide HR]; simp, below_step (unhide HB) hb1⟩
  rw [h2] at HR
  obtain ⟨bb, hbb⟩ : ∃ bb, (e.op == 5 || e.op == 19 || e.op == 20 || e.op == 21) = bb := ⟨_, rfl⟩
  rw [hbb] at HR
  cases bb
  · simp only [Bool.or_eq_false_iff] at hbb
    obtain ⟨⟨⟨h5, h19⟩, h20⟩, h21⟩ := hbb
    have HR1 : Hid (R = e.args.any (anE cols)) := unhide HR
    clear HR HCL
    go_wp2
    go_loopw [55] (fun i wr => ∃ k : Nat, k ≤ e.args.length ∧ i = .int .i64 (k : Int) ∧ Hid (∀ i x, i < k → e.args[i]? = some x → anE cols x = false) ∧ Hid (Below wa.heap.size wa wr)) (fun i _ => e.args.length - (intOf i).toNat)
    case atStart => exact ⟨0, Nat.zero_le _, rfl, fun i x hi => absurd hi (by omega), Below.refl _ _⟩
    case round =>
      obtain ⟨k, hk, rfl, HN, HBr⟩ := hrel
      by_cases hlt : k < e.args.length
      · have h9 : (k : Int) < (e.args.length : Int) := by omega
        obtain ⟨x, hx⟩ : ∃ x, e.args[k]? = some x := ⟨_, List.getElem?_eq_getElem hlt⟩
        obtain ⟨vb, vo, ea, hat⟩ := Ex.all_get (unhide HA _ (unhide HBr)) hx
        obtain ⟨a', c', ⟨d0, d1, d2, d3, d4, d5⟩, hal⟩ := Ex.at_open hat
        have HX := hide (unhide HIH k x hx a' c' (wr.alloc (.cells #[.int .i64 x.op, .int .i64 x.n, .int .i64 x.v.k, .int .i64 x.v.n, .string x.v.s, .slice a' x.args.length c'] 59)) (unhide HC _ (below_alloc (unhide HBr) _)) (Ex.all_later _ hal (below_alloc (Below.refl _ _) _)))
        have HBX := hide (below_alloc (unhide HBr) (.cells #[.int .i64 x.op, .int .i64 x.n, .int .i64 x.v.k, .int .i64 x.v.n, .string x.v.s, .slice a' x.args.length c'] 59))
        rw [Ex.val_open] at HX
        subst ea
        clear hat hal HIH HA HC
        cases hp : anE cols x
        · have HE := hide (no_step (unhide HN) hx hp)
          rw [hp] at HX
          clear hx HN hp
          go_wp2_with (go_at_call 117; refine (unhide HX).mono ?_; rintro r w1 ⟨rfl, hb1⟩)
          exact ⟨⟨k + 1, by omega, by go_num, unhide HE, below_step (unhide HBX) hb1⟩, by simp [intOf]; omega⟩
        · have HE := hide (any_yes (p := anE cols) hx hp)
          rw [hp] at HX
          clear hx HN hp
          go_wp2_with (go_at_call 117; refine (unhide HX).mono ?_; rintro r w1 ⟨rfl, hb1⟩)
          go_ret
          exact ⟨by rw [unhide HR1]; rw [unhide HE]; rfl, below_step (unhide HB) (below_step (unhide HBX) hb1)⟩
      · have h9 : ¬ (k : Int) < (e.args.length : Int) := by omega
        have HE := hide (any_noK (p := anE cols) (show k = e.args.length by omega) (unhide HN))
        clear HIH HA HC
        go_wp2
        go_ret
        exact ⟨by rw [unhide HR1]; rw [unhide HE]; rfl, below_step (unhide HB) (unhide HBr)⟩
  · have HR1 : Hid (R = false) := by have h := unhide HR; show R = false; simpa using h
    clear HR HIH HA HC HCL
    by_cases h5 : e.op = 5
    · rw [h5] at s0 ⊢
      clear h1 h2 hbb
      go_wp2
      go_ret
      exact ⟨by rw [unhide HR1]; rfl, unhide HB⟩
    by_cases h19 : e.op = 19
    · rw [h19] at s0 ⊢
      clear h1 h2 hbb
      go_wp2
      go_ret
      exact ⟨by rw [unhide HR1]; rfl, unhide HB⟩
    by_cases h20 : e.op = 20
    · rw [h20] at s0 ⊢
      clear h1 h2 hbb
      go_wp2
      go_ret
      exact ⟨by rw [unhide HR1]; rfl, unhide HB⟩
    · have h21 : e.op = 21 := by simpa [h5, h19, h20] using hbb
      rw [h21] at s0 ⊢
      clear h1 h2 hbb
      go_wp2
      go_ret
      exact ⟨by rw [unhide HR1]; rfl, unhide HB⟩
theorem cnull_all (cols : List Int) (aC : Option Addr) (cC : Nat) (hl : cols.length ≤ 140737488355328) : ∀ (k : Nat) (e : Ex), e.size ≤ k → e.fin → ∀ (a : Option Addr) (c : Nat) (w : World), IntsAt w aC cols → Ex.all w a e.args →
    Calls Tryz.prog 117 #[e.val a c, .slice aC cols.length cC] w fun r w' => r = .returned (.bool (anE cols e)) ∧ Below w.heap.size w w'
  | 0, e, hs, _, _, _, _, _, _ => by rw [Ex.size_mk] at hs; omega
  | k + 1, e, hs, hf, a, c, w, hC, ha => cnull_step cols e hf aC cC a c w hl hC ha fun i x hx a' c' W h1 h2 => cnull_all cols aC cC hl k x (by have := Ex.size_arg hx; omega) (Ex.fin_arg hf hx) a' c' W h1 h2
end Go.Proofs.YtmjeiepljlepbacGreat
set_option linter.unusedSimpArgs false
set_option linter.unusedVariables false
namespace Go.Proofs.YtmjeiepljlepbacGreat
open Go.RowKit Go.Sort

mutual
/-- Certainly not true where these columns are null. -/
def ntE (cols : List Int) : Ex → Bool
  | .mk op n v l => if op == 2 then !trueB v else if op == 19 then ntO cols l else if op == 20 then ntA cols l else anE cols (.mk op n v l)
def ntO (cols : List Int) : List Ex → Bool
  | [] => false
  | x :: l => ntE cols x || ntH cols l
def ntA (cols : List Int) : List Ex → Bool
  | [] => false
  | x :: l => ntE cols x && ntH cols l
def ntH (cols : List Int) : List Ex → Bool
  | [] => false
  | y :: _ => ntE cols y
end
theorem ntE_eq (cols : List Int) (e : Ex) : ntE cols e = if e.op == 2 then !trueB e.v else if e.op == 19 then ntO cols e.args else if e.op == 20 then ntA cols e.args else anE cols e := by
  cases e with
  | mk op n v l => rw [ntE]; rfl
theorem nt_two (cols : List Int) (x y : Ex) : ntO cols [x, y] = (ntE cols x || ntE cols y) ∧ ntA cols [x, y] = (ntE cols x && ntE cols y) := by
  rw [ntO, ntA, ntH]; exact ⟨rfl, rfl⟩
theorem nt_of_an {cols : List Int} {e : Ex} (h : anE cols e = true) : ntE cols e = true := by
  rw [ntE_eq]
  rw [anE_eq] at h
  by_cases h2 : e.op = 2
  · rw [h2] at h ⊢
    simp at h ⊢
    rw [← true_cleanL]
    simp [trueB, h]
  by_cases h19 : e.op = 19
  · rw [h19] at h; simp at h
  by_cases h20 : e.op = 20
  · rw [h20] at h; simp at h
  · rw [← anE_eq] at h
    simp [h2, h19, h20, h]
set_option maxHeartbeats 1000000 in
set_option maxRecDepth 100000 in
theorem nottrue_step (cols : List Int) (e : Ex) (hf : e.fin) (hg : goodE e) (aC : Option Addr) (cC : Nat) (a : Option Addr) (c : Nat) (w : World) (hl : cols.length ≤ 140737488355328) (hC : IntsAt w aC cols) (ha : Ex.all w a e.args)
    (IH : ∀ (i : Nat) (x : Ex), e.args[i]? = some x → ∀ (a' : Option Addr) (c' : Nat) (W : World), IntsAt W aC cols → Ex.all W a' x.args → Calls Tryz.prog 81 #[x.val a' c', .slice aC cols.length cC] W fun r w' => r = .returned (.bool (ntE cols x)) ∧ Below W.heap.size W w') :
    Calls Tryz.prog 81 #[e.val a c, .slice aC cols.length cC] w fun r w' => r = .returned (.bool (ntE cols e)) ∧ Below w.heap.size w w' := by
  have hBa := below_alloc (Below.refl _ w) (.cells #[.int .i64 e.op, .int .i64 e.n, .int .i64 e.v.k, .int .i64 e.v.n, .string e.v.s, .slice a e.args.length c] 59)
  have h6 : Six (w.alloc (.cells #[.int .i64 e.op, .int .i64 e.n, .int .i64 e.v.k, .int .i64 e.v.n, .string e.v.s, .slice a e.args.length c] 59)) w.heap.size e a c := Six.new w e a c
  have HAN := hide (cnull_all cols aC cC hl e.size e (Nat.le_refl _) hf a c (w.alloc (.cells #[.int .i64 e.op, .int .i64 e.n, .int .i64 e.v.k, .int .i64 e.v.n, .string e.v.s, .slice a e.args.length c] 59)) (hC.later hBa) (Ex.all_later _ ha hBa))
  have HCL := hide (rclean_any e.v)
  have HTR := hide (rtrue_any (cleanV e.v))
  have HIC := hide (fun W (hW : Below w.heap.size w W) => hC.later hW)
  have HIA := hide (fun W (hW : Below w.heap.size w W) => Ex.all_later _ ha hW)
  have HIH := hide IH
  have HG := hide hg
  obtain ⟨R, hR⟩ : ∃ R, R = ntE cols e := ⟨_, rfl⟩
  have HR : Hid (R = if e.op == 2 then !trueB e.v else if e.op == 19 then ntO cols e.args else if e.op == 20 then ntA cols e.args else anE cols e) := by rw [hR]; exact ntE_eq cols e
  have HT : Hid (anE cols e = true → R = true) := fun h => by rw [hR]; exact nt_of_an h
  rw [← hR]
  have HB := hide hBa
  have H6 := hide h6
  rw [Ex.val_open] at HAN ⊢
  rw [Val.open_] at HCL HTR
  rw [true_cleanL] at HTR
  obtain ⟨c0, c1, c2, c3, c4, c5⟩ := h6
  generalize anE cols e = rA at *
  generalize cleanV e.v = cv at *
  clear hR hBa ha hC IH hg
  cases rA with
  | true =>
    have HT1 : Hid (R = true) := unhide HT rfl
    clear HR HIH HIC HIA HT
    go_enter Tryz.func81, Tryz.ntmps81
    go_wp2_with (go_at_call 117; refine (unhide HAN).mono ?_; rintro r w1 ⟨rfl, hb1⟩)
    go_ret
    exact ⟨by rw [unhide HT1]; rfl, below_one hb1⟩
  | false =>
  clear HT
  go_enter Tryz.func81, Tryz.ntmps81
  go_upto_region 3 with (go_at_call 117; refine (unhide HAN).mono ?_; rintro r w1 ⟨rfl, hb1⟩; have HB1 := hide (below_step (unhide HB) hb1); have HS1 := hide ((unhide H6).later hb1))
  obtain ⟨s0, s1, s2, s3, s4, s5⟩ := unhide HS1
  have HA1 := hide (fun W (hW : Below w1.heap.size w1 W) => unhide HIA W (below_step (unhide HB1) hW))
  have HC1 := hide (fun W (hW : Below w1.heap.size w1 W) => unhide HIC W (below_step (unhide HB1) hW))
  clear c0 c1 c2 c3 c4 c5 HIA HIC HAN HB H6 hb1
  rcases Bool.eq_false_or_eq_true (e.op == 2) with h2 | h2
  · rw [h2] at HR
    clear HIH HA1 HC1
    go_wp2_with (first
      | (go_at_call 111; refine (unhide HTR _).mono ?_; rintro r w3 ⟨rfl, hb3⟩)
      | (go_at_call 97; refine (unhide HCL _).mono ?_; rintro r w2 ⟨rfl, hb2⟩; rw [Val.open_]))
    go_ret
    exact ⟨by rw [unhide HR]; rfl, below_step (unhide HB1) (below_step hb2 hb3)⟩
  rw [h2] at HR
  rcases Bool.eq_false_or_eq_true (e.op == 19) with h19 | h19
  · rw [h19] at HR
    have ho : arI e.op = 2 := by have : e.op = 19 := by simpa using h19
                                 rw [this]; rfl
    obtain ⟨x, y, hxy⟩ := two_args (unhide HG) ho
    rw [hxy, (nt_two cols x y).1] at HR
    have hln : e.args.length = 2 := by rw [hxy]; rfl
    obtain ⟨vb, vo, ea, hx0⟩ := Ex.all_get (i := 0) (e := x) (unhide HA1 w1 (Below.refl _ _)) (by rw [hxy]; rfl)
    obtain ⟨a1, cc1, ⟨d0, d1, d2, d3, d4, d5⟩, hal1⟩ := Ex.at_open hx0
    rw [Nat.zero_mul, Nat.add_zero] at d0 d1 d2 d3 d4 d5
    have HXC := hide (unhide HIH 0 x (by rw [hxy]; rfl) a1 cc1 w1 (unhide HC1 w1 (Below.refl _ _)) hal1)
    have HYY : Hid (∀ W, Below w1.heap.size w1 W → ∃ b off a2 cc2, a = some ⟨b, off, none⟩ ∧ (W.cell? ⟨b, off + 6, none⟩ = some (.int .i64 y.op) ∧ W.cell? ⟨b, off + 6 + 1, none⟩ = some (.int .i64 y.n) ∧ W.cell? ⟨b, off + 6 + 2, none⟩ = some (.int .i64 y.v.k) ∧ W.cell? ⟨b, off + 6 + 3, none⟩ = some (.int .i64 y.v.n) ∧ W.cell? ⟨b, off + 6 + 4, none⟩ = some (.string y.v.s) ∧ W.cell? ⟨b, off + 6 + 5, none⟩ = some (.slice a2 y.args.length cc2)) ∧ Calls Tryz.prog 81 #[y.val a2 cc2, .slice aC cols.length cC] W fun r w' => r = .returned (.bool (ntE cols y)) ∧ Below W.heap.size W w') := by
      intro W hW
      obtain ⟨b, off, ea, hy0⟩ := Ex.all_get (i := 1) (e := y) (unhide HA1 W hW) (by rw [hxy]; rfl)
      obtain ⟨a2, cc2, ⟨d0, d1, d2, d3, d4, d5⟩, hal2⟩ := Ex.at_open hy0
      rw [Nat.one_mul] at d0 d1 d2 d3 d4 d5
      exact ⟨b, off, a2, cc2, ea, ⟨d0, d1, d2, d3, d4, d5⟩, unhide HIH 1 y (by rw [hxy]; rfl) a2 cc2 W (unhide HC1 W hW) hal2⟩
    rw [Ex.val_open] at HXC
    subst ea
    rw [hln] at s5 ⊢
    generalize hrx : ntE cols x = rx at *
    generalize hry : ntE cols y = ry at *
    clear hal1 hx0 hxy hrx hry ho HIH HA1 HC1
    cases rx with
    | true =>
      clear HYY
      go_wp2_with (go_at_call 81; refine (unhide HXC).mono ?_; rintro r w2 ⟨rfl, hb2⟩)
      go_ret
      exact ⟨by rw [unhide HR]; rfl, below_step (unhide HB1) hb2⟩
    | false =>
      go_wp2_with (first
        | (go_at_call 81; refine (unhide HYC).mono ?_; rintro r w3 ⟨rfl, hb3⟩)
        | (go_at_call 81; refine (unhide HXC).mono ?_; rintro r w2 ⟨rfl, hb2⟩; obtain ⟨q0, q1, q2, q3, q4, q5⟩ := (unhide HS1).later hb2; rw [hln] at q5; obtain ⟨vb2, vo2, a2, cc2, ea2, ⟨f0, f1, f2, f3, f4, f5⟩, hyc⟩ := unhide HYY w2 hb2; injection ea2 with ea2; injection ea2 with ea3 ea4; subst ea3 ea4; have HYC := hide hyc; rw [Ex.val_open] at HYC; clear hyc))
      go_ret
      exact ⟨by rw [unhide HR]; rfl, below_step (unhide HB1) (below_step hb2 hb3)⟩
  rw [h19] at HR
  rcases Bool.eq_false_or_eq_true (e.op == 20) with h20 | h20
  · rw [h20] at HR
    have ho : arI e.op = 2 := by have : e.op = 20 := by simpa using h20
                                 rw [this]; rfl
    obtain ⟨x, y, hxy⟩ := two_args (unhide HG) ho
    rw [hxy, (nt_two cols x y).2] at HR
    have hln : e.args.length = 2 := by rw [hxy]; rfl
    obtain ⟨vb, vo, ea, hx0⟩ := Ex.all_get (i := 0) (e := x) (unhide HA1 w1 (Below.refl _ _)) (by rw [hxy]; rfl)
    obtain ⟨a1, cc1, ⟨d0, d1, d2, d3, d4, d5⟩, hal1⟩ := Ex.at_open hx0
    rw [Nat.zero_mul, Nat.add_zero] at d0 d1 d2 d3 d4 d5
    have HXC := hide (unhide HIH 0 x (by rw [hxy]; rfl) a1 cc1 w1 (unhide HC1 w1 (Below.refl _ _)) hal1)
    have HYY : Hid (∀ W, Below w1.heap.size w1 W → ∃ b off a2 cc2, a = some ⟨b, off, none⟩ ∧ (W.cell? ⟨b, off + 6, none⟩ = some (.int .i64 y.op) ∧ W.cell? ⟨b, off + 6 + 1, none⟩ = some (.int .i64 y.n) ∧ W.cell? ⟨b, off + 6 + 2, none⟩ = some (.int .i64 y.v.k) ∧ W.cell? ⟨b, off + 6 + 3, none⟩ = some (.int .i64 y.v.n) ∧ W.cell? ⟨b, off + 6 + 4, none⟩ = some (.string y.v.s) ∧ W.cell? ⟨b, off + 6 + 5, none⟩ = some (.slice a2 y.args.length cc2)) ∧ Calls Tryz.prog 81 #[y.val a2 cc2, .slice aC cols.length cC] W fun r w' => r = .returned (.bool (ntE cols y)) ∧ Below W.heap.size W w') := by
      intro W hW
      obtain ⟨b, off, ea, hy0⟩ := Ex.all_get (i := 1) (e := y) (unhide HA1 W hW) (by rw [hxy]; rfl)
      obtain ⟨a2, cc2, ⟨d0, d1, d2, d3, d4, d5⟩, hal2⟩ := Ex.at_open hy0
      rw [Nat.one_mul] at d0 d1 d2 d3 d4 d5
      exact ⟨b, off, a2, cc2, ea, ⟨d0, d1, d2, d3, d4, d5⟩, unhide HIH 1 y (by rw [hxy]; rfl) a2 cc2 W (unhide HC1 W hW) hal2⟩
    rw [Ex.val_open] at HXC
    subst ea
    rw [hln] at s5 ⊢
    generalize hrx : ntE cols x = rx at *
    generalize hry : ntE cols y = ry at *
    clear hal1 hx0 hxy hrx hry ho HIH HA1 HC1
    cases rx with
    | false =>
      clear HYY
      go_wp2_with (go_at_call 81; refine (unhide HXC).mono ?_; rintro r w2 ⟨rfl, hb2⟩)
      go_ret
      exact ⟨by rw [unhide HR]; rfl, below_step (unhide HB1) hb2⟩
    | true =>
      go_wp2_with (first
        | (go_at_call 81; refine (unhide HYC).mono ?_; rintro r w3 ⟨rfl, hb3⟩)
        | (go_at_call 81; refine (unhide HXC).mono ?_; rintro r w2 ⟨rfl, hb2⟩; obtain ⟨q0, q1, q2, q3, q4, q5⟩ := (unhide HS1).later hb2; rw [hln] at q5; obtain ⟨vb2, vo2, a2, cc2, ea2, ⟨f0, f1, f2, f3, f4, f5⟩, hyc⟩ := unhide HYY w2 hb2; injection ea2 with ea2; injection ea2 with ea3 ea4; subst ea3 ea4; have HYC := hide hyc; rw [Ex.val_open] at HYC; clear hyc))
      go_ret
      exact ⟨by rw [unhide HR]; rfl, below_step (unhide HB1) (below_step hb2 hb3)⟩
  rw [h20] at HR
  clear HIH HA1 HC1
  go_wp2
  go_ret
  exact ⟨by rw [unhide HR]; rfl, unhide HB1⟩
theorem nottrue_all (cols : List Int) (aC : Option Addr) (cC : Nat) (hl : cols.length ≤ 140737488355328) : ∀ (k : Nat) (e : Ex), e.size ≤ k → e.fin → goodE e → ∀ (a : Option Addr) (c : Nat) (w : World), IntsAt w aC cols → Ex.all w a e.args →
    Calls Tryz.prog 81 #[e.val a c, .slice aC cols.length cC] w fun r w' => r = .returned (.bool (ntE cols e)) ∧ Below w.heap.size w w'
  | 0, e, hs, _, _, _, _, _, _, _ => by rw [Ex.size_mk] at hs; omega
  | k + 1, e, hs, hf, hg, a, c, w, hC, ha => nottrue_step cols e hf hg aC cC a c w hl hC ha fun i x hx a' c' W h1 h2 => nottrue_all cols aC cC hl k x (by have := Ex.size_arg hx; omega) (Ex.fin_arg hf hx) (good_arg hg hx) a' c' W h1 h2
end Go.Proofs.YtmjeiepljlepbacGreat

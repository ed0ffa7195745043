import Derived.Test.YtmjeiepljlepbacGreatEvE
set_option linter.unusedSimpArgs false
set_option linter.unusedVariables false
set_option maxRecDepth 100000
namespace Go.Proofs.YtmjeiepljlepbacGreat
open Go.RowKit Go.Sort
set_option maxHeartbeats 400000 in
set_option maxRecDepth 100000 in
theorem index_any (a : Option Addr) (c : Nat) (l : List Int) (n : Int) (w : World) (hl : l.length ≤ 140737488355328) (ha : IntsAt w a l) :
    Calls Tryz.prog 213 #[.slice a l.length c, .int .i64 n] w fun e w' => (∃ r, e = .returned (.int .i64 r) ∧ decide (0 ≤ r) = l.any (fun x => n == x)) ∧ w' = w := by
  have HA := hide ha
  clear ha
  go_enter Tryz.func213, Tryz.ntmps213
  go_wp2_with fail
  go_loop [8] (fun i => ∃ k : Nat, k ≤ l.length ∧ i = .int .i64 (k : Int) ∧ Hid (∀ i x, i < k → l[i]? = some x → (n == x) = false)) (fun i => l.length - (intOf i).toNat)
  case atStart => exact ⟨0, Nat.zero_le _, rfl, fun i x hi => absurd hi (by omega)⟩
  case round =>
    obtain ⟨k, hk, rfl, HN⟩ := hrel
    by_cases hlt : k < l.length
    · have h9 : (k : Int) < (l.length : Int) := by omega
      obtain ⟨x, hx⟩ : ∃ x, l[k]? = some x := ⟨_, List.getElem?_eq_getElem hlt⟩
      obtain ⟨b, off, rfl, c0⟩ := (unhide HA).get hx
      rcases Bool.eq_false_or_eq_true (n == x) with he | he
      · have HE := hide (any_at (p := fun x => n == x) hx he)
        clear hx HN
        go_wp2
        go_ret
        exact ⟨⟨_, rfl, by rw [unhide HE]; simp⟩, rfl⟩
      · have HE := hide (no_step (p := fun x => n == x) (unhide HN) hx he)
        clear hx HN
        go_wp2
        exact ⟨⟨k + 1, by omega, by go_num, unhide HE⟩, by simp [intOf]; omega⟩
    · have h9 : ¬ (k : Int) < (l.length : Int) := by omega
      have HE := hide (any_no (p := fun x => n == x) fun i x hi hx => unhide HN i x (by omega) hx)
      clear HN
      go_wp2
      go_ret
      exact ⟨⟨_, rfl, by rw [unhide HE]; rfl⟩, rfl⟩
theorem contains_any (a : Option Addr) (c : Nat) (l : List Int) (n : Int) (w : World) (hl : l.length ≤ 140737488355328) (ha : IntsAt w a l) :
    Calls Tryz.prog 172 #[.slice a l.length c, .int .i64 n] w fun e w' => e = .returned (.bool (l.any (fun x => n == x))) ∧ w' = w := by
  have HI := hide (index_any a c l n w hl ha)
  clear ha
  generalize l.any (fun x => n == x) = r at *
  go_enter Tryz.func172, Tryz.ntmps172
  go_wp2_with (go_at_call 213; refine (unhide HI).mono ?_; rintro e w1 ⟨⟨q, rfl, hq⟩, rfl⟩)
  go_ret
  exact ⟨rfl, rfl⟩
set_option maxHeartbeats 400000 in
set_option maxRecDepth 100000 in
theorem indexE_anyS (p : Ex → Bool) (B : Nat) (a : Option Addr) (c : Nat) (l : List Ex) (w : World) (hl : l.length ≤ 140737488355328) (ha : Ex.all w a l)
    (HP : ∀ (i : Nat) (x : Ex), l[i]? = some x → ∀ (a' : Option Addr) (c' : Nat) (W : World), Below w.heap.size w W → Ex.all W a' x.args → Calls Tryz.prog 173 #[x.val a' c', .pointer (some ⟨B, 0, none⟩)] W fun r w' => r = .returned (.bool (p x)) ∧ Below W.heap.size W w') :
    Calls Tryz.prog 123 #[.slice a l.length c, .func (.func 173) #[] #[.pointer (some ⟨B, 0, none⟩)]] w fun e w' => ∃ r, e = .returned (.int .i64 r) ∧ decide (0 ≤ r) = l.any p ∧ Below w.heap.size w w' := by
  have HA := hide ha
  have HC := hide HP
  clear ha HP
  go_enter Tryz.func123, Tryz.ntmps123
  go_wp2_with fail
  go_loopw [8] (fun i wr => ∃ k : Nat, k ≤ l.length ∧ i = .int .i64 (k : Int) ∧ Hid (∀ i x, i < k → l[i]? = some x → p x = false) ∧ Below w.heap.size w wr) (fun i _ => l.length - (intOf i).toNat)
  case atStart => exact ⟨0, Nat.zero_le _, rfl, fun i x hi => absurd hi (by omega), Below.refl _ _⟩
  case round =>
    obtain ⟨k, hk, rfl, HN, hb⟩ := hrel
    by_cases hlt : k < l.length
    · have h9 : (k : Int) < (l.length : Int) := by omega
      obtain ⟨x, hx⟩ : ∃ x, l[k]? = some x := ⟨_, List.getElem?_eq_getElem hlt⟩
      obtain ⟨vb, vo, ea, hat⟩ := Ex.all_get (Ex.all_later _ (unhide HA) hb) hx
      obtain ⟨a', c', ⟨d0, d1, d2, d3, d4, d5⟩, hal⟩ := Ex.at_open hat
      have HX := hide (unhide HC k x hx a' c' wr hb hal)
      rw [Ex.val_open] at HX
      have HB := hide hb
      subst ea
      clear hat hal hb
      cases hp : p x
      · have HE := hide (no_step (unhide HN) hx hp)
        rw [hp] at HX
        clear hx HN hp
        go_wp2_with (go_at_call 173; refine (unhide HX).mono ?_; rintro r w1 ⟨rfl, hb1⟩)
        exact ⟨⟨k + 1, by omega, by go_num, unhide HE, below_step (unhide HB) hb1⟩, by simp [intOf]; omega⟩
      · have HE := hide (any_at hx hp)
        rw [hp] at HX
        clear hx HN hp
        go_wp2_with (go_at_call 173; refine (unhide HX).mono ?_; rintro r w1 ⟨rfl, hb1⟩)
        go_ret
        exact ⟨_, rfl, by rw [unhide HE]; simp, below_step (unhide HB) hb1⟩
    · have h9 : ¬ (k : Int) < (l.length : Int) := by omega
      have HE := hide (any_no (p := p) fun i x hi hx => unhide HN i x (by omega) hx)
      have HB := hide hb
      clear HN hb
      go_wp2
      go_ret
      exact ⟨_, rfl, by rw [unhide HE]; rfl, unhide HB⟩
theorem containsE_anyS (p : Ex → Bool) (B : Nat) (a : Option Addr) (c : Nat) (l : List Ex) (w : World) (hl : l.length ≤ 140737488355328) (ha : Ex.all w a l)
    (HP : ∀ (i : Nat) (x : Ex), l[i]? = some x → ∀ (a' : Option Addr) (c' : Nat) (W : World), Below w.heap.size w W → Ex.all W a' x.args → Calls Tryz.prog 173 #[x.val a' c', .pointer (some ⟨B, 0, none⟩)] W fun r w' => r = .returned (.bool (p x)) ∧ Below W.heap.size W w') :
    Calls Tryz.prog 120 #[.slice a l.length c, .func (.func 173) #[] #[.pointer (some ⟨B, 0, none⟩)]] w fun e w' => e = .returned (.bool (l.any p)) ∧ Below w.heap.size w w' := by
  have HI := hide (indexE_anyS p B a c l w hl ha HP)
  clear ha HP
  generalize l.any p = r at *
  go_enter Tryz.func120, Tryz.ntmps120
  go_wp2_with (go_at_call 123; refine (unhide HI).mono ?_; rintro e w1 ⟨q, rfl, hq, hb⟩)
  go_ret
  exact ⟨rfl, hb⟩
set_option maxHeartbeats 400000 in
set_option maxRecDepth 100000 in
theorem an56 {cols : List Int} {x : Ex} {aC : Option Addr} {cC B : Nat} {a : Option Addr} {c : Nat} {w : World} (hB : Box1 w B (.slice aC cols.length cC)) (hC : IntsAt w aC cols) (ha : Ex.all w a x.args)
    (H : ∀ (W : World), IntsAt W aC cols → Ex.all W a x.args → Calls Tryz.prog 116 #[x.val a c, .slice aC cols.length cC] W fun r w' => r = .returned (.bool (anE cols x)) ∧ Below W.heap.size W w') :
    Calls Tryz.prog 173 #[x.val a c, .pointer (some ⟨B, 0, none⟩)] w fun r w' => r = .returned (.bool (anE cols x)) ∧ Below w.heap.size w w' := by
  have HC := hide (H (w.alloc (.cells #[.int .i64 x.op, .int .i64 x.n, .int .i64 x.v.k, .int .i64 x.v.n, .string x.v.s, .slice a x.args.length c] 59)) (hC.later (below_alloc (Below.refl _ _) _)) (Ex.all_later _ ha (below_alloc (Below.refl _ _) _)))
  have c0 := clater hB (below_alloc (Below.refl _ w) (.cells #[.int .i64 x.op, .int .i64 x.n, .int .i64 x.v.k, .int .i64 x.v.n, .string x.v.s, .slice a x.args.length c] 59))
  generalize anE cols x = r at *
  rw [Ex.val_open] at HC ⊢
  clear H hB hC ha
  go_enter Tryz.func173, Tryz.ntmps173
  go_wp2_with (go_at_call 116; refine (unhide HC).mono ?_; rintro e w1 ⟨rfl, hb1⟩)
  go_ret
  exact ⟨rfl, below_one hb1⟩
set_option maxHeartbeats 1000000 in
set_option maxRecDepth 100000 in
theorem always_step (cols : List Int) (e : Ex) (hf : e.fin) (aC : Option Addr) (cC : Nat) (a : Option Addr) (c : Nat) (w : World) (hl : cols.length ≤ 140737488355328) (hC : IntsAt w aC cols) (ha : Ex.all w a e.args)
    (IH : ∀ (i : Nat) (x : Ex), e.args[i]? = some x → ∀ (a' : Option Addr) (c' : Nat) (W : World), IntsAt W aC cols → Ex.all W a' x.args → Calls Tryz.prog 116 #[x.val a' c', .slice aC cols.length cC] W fun r w' => r = .returned (.bool (anE cols x)) ∧ Below W.heap.size W w') :
    Calls Tryz.prog 116 #[e.val a c, .slice aC cols.length cC] w fun r w' => r = .returned (.bool (anE cols e)) ∧ Below w.heap.size w w' := by
  obtain ⟨⟨hel, hv, _, _⟩, _⟩ := Ex.fin_open hf
  have hBa := below_alloc (below_alloc (Below.refl _ w) (.cells #[.int .i64 e.op, .int .i64 e.n, .int .i64 e.v.k, .int .i64 e.v.n, .string e.v.s, .slice a e.args.length c] 59)) (.cells #[.slice aC cols.length cC] 23)
  have h6 := Six.later (Six.new w e a c) (below_alloc (Below.refl _ (w.alloc (.cells #[.int .i64 e.op, .int .i64 e.n, .int .i64 e.v.k, .int .i64 e.v.n, .string e.v.s, .slice a e.args.length c] 59))) (.cells #[.slice aC cols.length cC] 23))
  have hB1 : Box1 ((w.alloc (.cells #[.int .i64 e.op, .int .i64 e.n, .int .i64 e.v.k, .int .i64 e.v.n, .string e.v.s, .slice a e.args.length c] 59)).alloc (.cells #[.slice aC cols.length cC] 23)) (w.heap.size + 1) (.slice aC cols.length cC) := by unfold Box1; simp [go_sem]
  have HCON := hide (contains_any aC cC cols e.n ((w.alloc (.cells #[.int .i64 e.op, .int .i64 e.n, .int .i64 e.v.k, .int .i64 e.v.n, .string e.v.s, .slice a e.args.length c] 59)).alloc (.cells #[.slice aC cols.length cC] 23)) hl (hC.later hBa))
  have HCE := hide (containsE_anyS (anE cols) (w.heap.size + 1) a c e.args ((w.alloc (.cells #[.int .i64 e.op, .int .i64 e.n, .int .i64 e.v.k, .int .i64 e.v.n, .string e.v.s, .slice a e.args.length c] 59)).alloc (.cells #[.slice aC cols.length cC] 23)) hel (Ex.all_later _ ha hBa)
    fun i x hx a' c' W hW hal => an56 (hB1.later hW) ((hC.later hBa).later hW) hal fun W' h1 h2 => IH i x hx a' c' W' h1 h2)
  have HCL := hide (clean_any e.v)
  obtain ⟨R, hR⟩ : ∃ R, R = anE cols e := ⟨_, rfl⟩
  have HR : Hid (R = if e.op == 1 then cols.any (fun x => e.n == x) else if e.op == 2 then (cleanV e.v).k == 0 else if e.op == 5 || e.op == 19 || e.op == 20 || e.op == 21 then false else e.args.any (anE cols)) := by rw [hR]; exact anE_eq cols e
  rw [← hR]
  generalize e.args.any (anE cols) = rE at *
  generalize cols.any (fun x => e.n == x) = rC at *
  generalize cleanV e.v = cv at *
  obtain ⟨c0, c1, c2, c3, c4, c5⟩ := h6
  have hf0 := field0
  have HB := hide hBa
  rw [Ex.val_open]
  rw [Val.open_] at HCL
  clear hR hBa ha hC IH hB1
  rcases Bool.eq_false_or_eq_true (e.op == 1) with h1 | h1
  · rw [h1] at HR
    go_enter Tryz.func116, Tryz.ntmps116
    go_wp2_with (go_at_call 172; refine (unhide HCON).mono ?_; rintro r w1 ⟨rfl, rfl⟩)
    go_ret
    exact ⟨by rw [unhide HR]; simp, unhide HB⟩
  rw [h1] at HR
  rcases Bool.eq_false_or_eq_true (e.op == 2) with h2 | h2
  · rw [h2] at HR
    go_enter Tryz.func116, Tryz.ntmps116
    go_wp2_with (go_at_call 47; refine (unhide HCL _).mono ?_; rintro r w1 ⟨rfl, hb1⟩; rw [Val.open_])
    go_ret
    exact ⟨by rw [unhide HR]; simp, below_step (unhide HB) hb1⟩
  rw [h2] at HR
  rcases Bool.eq_false_or_eq_true (e.op == 5) with h5 | h5
  · rw [h5] at HR
    go_enter Tryz.func116, Tryz.ntmps116
    go_wp2
    go_ret
    exact ⟨by rw [unhide HR]; simp, unhide HB⟩
  rcases Bool.eq_false_or_eq_true (e.op == 19) with h19 | h19
  · rw [h5, h19] at HR
    go_enter Tryz.func116, Tryz.ntmps116
    go_wp2
    go_ret
    exact ⟨by rw [unhide HR]; simp, unhide HB⟩
  rcases Bool.eq_false_or_eq_true (e.op == 20) with h20 | h20
  · rw [h5, h19, h20] at HR
    go_enter Tryz.func116, Tryz.ntmps116
    go_wp2
    go_ret
    exact ⟨by rw [unhide HR]; simp, unhide HB⟩
  rcases Bool.eq_false_or_eq_true (e.op == 21) with h21 | h21
  · rw [h5, h19, h20, h21] at HR
    go_enter Tryz.func116, Tryz.ntmps116
    go_wp2
    go_ret
    exact ⟨by rw [unhide HR]; simp, unhide HB⟩
  rw [h5, h19, h20, h21] at HR
  have hmf : ∀ (fn : Fn) (first cap : Array Value) (w : World), (Instr.makeFunc fn first cap).run Tryz.prog w = .ok (.func fn first cap) w := fun _ _ _ _ => rfl
  go_enter Tryz.func116, Tryz.ntmps116
  go_wp2_with (go_at_call 120; refine (unhide HCE).mono ?_; rintro r w1 ⟨rfl, hb1⟩)
  go_ret
  exact ⟨by rw [unhide HR]; simp, below_step (unhide HB) hb1⟩
theorem always_all (cols : List Int) (aC : Option Addr) (cC : Nat) (hl : cols.length ≤ 140737488355328) : ∀ (k : Nat) (e : Ex), e.size ≤ k → e.fin → ∀ (a : Option Addr) (c : Nat) (w : World), IntsAt w aC cols → Ex.all w a e.args →
    Calls Tryz.prog 116 #[e.val a c, .slice aC cols.length cC] w fun r w' => r = .returned (.bool (anE cols e)) ∧ Below w.heap.size w w'
  | 0, e, hs, _, _, _, _, _, _ => by rw [Ex.size_mk] at hs; omega
  | k + 1, e, hs, hf, a, c, w, hC, ha => always_step cols e hf aC cC a c w hl hC ha fun i x hx a' c' W h1 h2 => always_all cols aC cC hl k x (by have := Ex.size_arg hx; omega) (Ex.fin_arg hf hx) a' c' W h1 h2
end Go.Proofs.YtmjeiepljlepbacGreat

import Derived.Test.YtfnacpkodfhfoadRmK2
set_option linter.unusedSimpArgs false
set_option linter.unusedVariables false
namespace Go.Proofs.Ytfnacpkodfhfoad
open Go.RowKit Go.Sort

/-- The walk of ColumnsOf (48). -/
theorem walk_all (o : Nat) (w0 : World) : ∀ (k : Nat) (e : Ex), e.size ≤ k → e.short → goodE e → ∀ (S : List Int), S.length + e.size ≤ 1000 → ∀ (v : Value) (L : List Int) (a : Option Addr) (c : Nat) (w : World), Ex.all w0 a e.args → CF o w0 S v L w →
    Calls Try.prog 68 #[e.val a c, .pointer (some ⟨o, 0, none⟩), .pointer (some ⟨o + 1, 0, none⟩)] w (WPost o w0 S e)
  | 0, e, hs, _, _, _, _, _, _, _, _, _, _, _ => by rw [Ex.size_mk] at hs; omega
  | k + 1, e, hs, hf, hg, S, hn, v, L, a, c, w, ha, hC => by
    by_cases h1 : e.op = 1
    · exact walk_col e h1 (col_args hg h1) o w0 S v L a c w hC (by omega)
    · exact walk_other e hf (by simpa using h1) o w0 S v L a c w ha hC fun i x hx a' c' S' v' L' W hS hal hC' =>
        walk_all o w0 k x (by have := Ex.size_arg hx; omega) (Ex.short_arg hf hx) (good_arg hg hx) S' (by
          have h2 := colsL_take hx
          have h3 := take_sizes hx
          rw [Ex.size_mk] at hn
          omega) v' L' a' c' W hal hC'
set_option maxHeartbeats 1000000 in
set_option maxRecDepth 100000 in
/-- tallyref.ColumnsOf (30). -/
theorem rcols_any (e : Ex) (hf : e.fin) (a : Option Addr) (c : Nat) (w : World) (ha : Ex.all w a e.args) :
    Calls Try.prog 41 #[e.val a c] w fun r w' => ∃ v L, r = .returned v ∧ OwnI w' w.heap.size v L ∧ (builtE e = true → Sd L (colsE e)) ∧ Below w.heap.size w w' := by
  have HB := hide (fun (W : World) (hW : Below w.heap.size w W) => rbuilt_any e hf a c W (Ex.all_later _ ha hW))
  have HW := hide (fun (hb : builtE e = true) (o : Nat) (W : World) (hC : CF o w [] (.slice none 0 0) [] W) => walk_all o w e.size e (Nat.le_refl _) (meas_short soundE e 400 40 (by omega) hb) (built_good hb) [] (by have := (built_bounds hb).1; simp; omega) (.slice none 0 0) [] a c W ha hC)
  have HB0 := hide (below_alloc (Below.refl _ w) (.cells #[.int .i64 e.op, .int .i64 e.n, .int .i64 e.v.k, .int .i64 e.v.n, .string e.v.s, .slice a e.args.length c] 26))
  have H6 := hide (Six.new w e a c)
  have hs0 : (w.alloc (.cells #[.int .i64 e.op, .int .i64 e.n, .int .i64 e.v.k, .int .i64 e.v.n, .string e.v.s, .slice a e.args.length c] 26)).heap.size = w.heap.size + 1 := by simp [go_sem]
  rw [Ex.val_open] at HB HW ⊢
  clear ha
  cases hb : builtE e with
  | false =>
    rw [hb] at HB
    clear hb HW
    go_enter Try.func41, Try.ntmps41
    go_wp2_with (go_at_call 40; refine (unhide HB _ (unhide HB0)).mono ?_; rintro r w1 ⟨rfl, hb1⟩; obtain ⟨b0, b1, b2, b3, b4, b5⟩ := (unhide H6).later hb1)
    go_ret
    exact ⟨_, [], rfl, own_nil _ _, fun h => absurd h (by decide), below_step (unhide HB0) hb1⟩
  | true =>
    rw [hb] at HB
    have HW := hide (unhide HW hb)
    clear hb
    go_enter Try.func41, Try.ntmps41
    go_upto_region 6 with (go_at_call 40; refine (unhide HB _ (unhide HB0)).mono ?_; rintro r w1 ⟨rfl, hb1⟩; obtain ⟨b0, b1, b2, b3, b4, b5⟩ := (unhide H6).later hb1)
    have hsw := hb1.size
    rw [hs0] at hsw
    have hB1 := below_step (unhide HB0) hb1
    have hC1 : CF w1.heap.size w [] (.slice none 0 0) [] ((w1.alloc (.cells #[.slice none 0 0] 27)).alloc (.cells #[F48 w1.heap.size] 83)) :=
      ⟨by simp [go_sem], by simp [go_sem], by simp [go_sem], own_nil _ _, Sd.nil, below_alloc (below_alloc hB1 _) _, by omega, by simp [go_sem]⟩
    have HX := hide (unhide HW _ _ hC1)
    have H6x := hide (((unhide H6).later hb1).later (below_alloc (below_alloc (Below.refl _ w1) (.cells #[.slice none 0 0] 27)) (.cells #[F48 w1.heap.size] 83)))
    have HB1 := hide hB1
    obtain ⟨o, ho⟩ : ∃ o, o = w1.heap.size := ⟨_, rfl⟩
    clear hC1 hB1 b0 b1 b2 b3 b4 b5 hb1
    unfold F48 at HX H6x
    obtain ⟨b0, b1, b2, b3, b4, b5⟩ := unhide H6x
    go_upto_region 7 with (go_at_call 68; refine (unhide HX).mono ?_; rintro r w2 ⟨rfl, v2, L2, hC2⟩; have HC2 := hide hC2; have c0 := hC2.c0; have hbl := hC2.bel; clear hC2)
    go_wp2
    go_ret
    exact ⟨_, L2, rfl, (unhide HC2).own.base_le (by omega), fun _ => by have := (unhide HC2).sd; rw [List.nil_append] at this; exact this, hbl⟩
end Go.Proofs.Ytfnacpkodfhfoad

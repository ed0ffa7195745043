import Derived.Test.YtfnacpkodfhfoacPuE
import Derived.Test.YtfnacpkodfhfoacFoK
import Derived.Test.YtfnacpkodfhfoacExX
set_option linter.unusedSimpArgs false
set_option linter.unusedVariables false
namespace Go.Proofs.Ytfnacpkodfhfoac
open Go.RowKit Go.Sort

theorem info23 : (Try.prog.info? 23).map (fun i => (i.zero, i.size, i.bytes)) = some (some (.agg #[.int .i64 0, .int .i64 0, .string ⟨#[]⟩]), 3, 32) := by kernel_rfl
theorem ownV_ge {w : World} {base : Nat} {v : Value} {L : List Val} (h : OwnV w base v L) : ∀ g, v.ownBlock = some g → base ≤ g := by
  intro g hg
  rcases h.2 with ⟨rfl, _⟩ | ⟨g', cap, cur, rfl, hb, _⟩
  · cases hg
  · simp [Value.ownBlock] at hg
    omega
/-- append(l, y), where y stands in a list of one that was made for it. -/
theorem wpList_push_val {ops : Array Oper} {rest : List Oper} {o : Oper} {a : Act} {Q : Exit → Act → World → Prop} (w : World) (hgd : o.guard = none) (s x : Operand) (ho : o.op = .call { callee := .builtin .append, args := #[s, x], argTypes := #[39, 39] })
    (base : Nat) (v : Value) (L : List Val) (hs : a.eval s = v) (hown : OwnV w base v L) (t : Nat) (y : Val) (hx : a.eval x = .slice (some ⟨t, 0, none⟩) 1 1) (hy : BoxAt w t y) (hl : L.length + 1 ≤ 4398046511104) (hbase : base ≤ w.heap.size)
    (h : ∀ v' w', OwnV w' base v' (L ++ [y]) → Below base w w' → wpList Try.prog ops Q rest (a.put o.dst v') w') : wpList Try.prog ops Q (o :: rest) a w := by
  obtain ⟨i4, hi4, z40, z41, z42⟩ := info_parts info23
  have hr : RowAt w (some ⟨t, 0, none⟩) [y] := .inr ⟨t, 0, rfl, fun i z hz => by
    match i, hz with
    | 0, hz =>
      simp at hz
      subst hz
      exact ⟨by simpa using hy.1, by simpa using hy.2.1, by simpa using hy.2.2⟩⟩
  refine wpList_append_own_at w hgd s x 39 ho base 23 i4 (.agg #[.int .i64 0, .int .i64 0, .string ⟨#[]⟩]) 3 32 Try.underlying39 hi4 z40 z41 z42 rfl (by decide) v L.length (L.flatMap c3) hs hown ⟨t, 0, none⟩ 1 1 ([y].flatMap c3) hx (flat_len [y]) (row_cells hr) (c3_all [y]) (by unfold maxLen; omega) (by omega) hbase ?_
  intro v' w' h1 h2 _ _
  refine h v' w' ?_ (grown_below h2 hbase (ownV_ge hown))
  unfold OwnV
  rw [List.length_append, List.flatMap_append]
  exact h1
theorem evalB_ok {row : List Val} (hv : ∀ x ∈ row, VOk x) {e : Ex} (hf : e.fin) : VOk (evalB row e) := by
  unfold evalB
  split
  · exact eval_ok hv e hf
  · exact vok_null
theorem putin_eval {row : List Val} {by_ : List Ex} {e : Ex} (h1 : builtE e = true) (h2 : ∀ x ∈ by_, builtE x = true) (h3 : usesB e by_.length = true) (h4 : builtE (madeE (putG by_) e) = true) : evalB row (madeE (putG by_) e) = evalB (by_.map (evalB row)) e := by
  have hm : by_.map (evalB row) = by_.map (evalE row) := List.map_congr_left fun x hx => by unfold evalB; rw [if_pos (h2 x hx)]
  rw [hm]
  unfold evalB
  rw [if_pos h4, if_pos h1]
  exact put_eval row by_ h2 e (built_good h1) h3
theorem map_take {α β : Type} (f : α → β) {l : List α} {k : Nat} {x : α} (h : l[k]? = some x) : (l.take (k + 1)).map f = (l.take k).map f ++ [f x] := by
  rw [List.take_add_one, h, List.map_append]
  rfl
theorem eqV_same (x : Val) (w : World) : (binOp .eql 23 (.agg #[.int .i64 x.k, .int .i64 x.n, .string x.s]) (.agg #[.int .i64 x.k, .int .i64 x.n, .string x.s])).run Try.prog w = .ok (.bool true) w := by
  rw [eqV x x w]
  simp
theorem okP_of {by_ : List Ex} {e : Ex} (h1 : builtE e = true) (h2 : ∀ x ∈ by_, builtE x = true) (h3 : usesB e by_.length = true) (h4 : builtE (madeE (putG by_) e) = true) : okP by_ e = true := by
  have : (by_.any fun e => !builtE e) = false := List.any_eq_false.2 fun x hx => by rw [h2 x hx]; simp
  unfold okP
  rw [h1, h3, h4, this]
  rfl
set_option maxHeartbeats 1000000 in
set_option maxRecDepth 100000 in
theorem law_no (e : Ex) (hf : e.fin) (by_ : List Ex) (hbf : Ex.fins by_) (hbl : by_.length ≤ 1954687338268) (row : List Val) (hok : okP by_ e = false) (a aB aR : Option Addr) (c cB cR : Nat) (w : World) (ha : Ex.all w a e.args) (hA : Ex.all w aB by_) :
    Calls Try.prog 5 #[e.val a c, .slice aB by_.length cB, .slice aR row.length cR] w fun r w' => r = .returned (.bool true) ∧ Below w.heap.size w w' := by
  have HP : Hid (∀ (W : World), Below w.heap.size w W → Calls Try.prog 10 #[e.val a c, .slice aB by_.length cB] W fun r w' => ∃ er : Int, er ≠ 0 ∧ r = .returned (.tuple #[.agg #[.int .i64 0, .int .i64 0, .int .i64 0, .int .i64 0, .string ⟨#[]⟩, .slice none 0 0], .int .i64 er]) ∧ Below W.heap.size W w') := fun W hW =>
    (put_any by_ hbf (by omega) aB cB e hf a c W (Ex.all_later _ ha hW) (Ex.all_later _ hA hW)).mono fun r w' hp => by
      rcases hp with ⟨h1, h2, h3, h4, _⟩ | ⟨er, her, _, h, hb⟩
      · rw [okP_of h1 h2 h3 h4] at hok; cases hok
      · exact ⟨er, her, h, hb⟩
  have H7 := hide seven_any
  have HB0 := hide (below_alloc (Below.refl _ w) (.cells #[.int .i64 e.op, .int .i64 e.n, .int .i64 e.v.k, .int .i64 e.v.n, .string e.v.s, .slice a e.args.length c] 26))
  rw [Ex.val_open] at HP ⊢
  clear ha hA hok
  go_enter Try.func5, Try.ntmps5
  go_wp2_with (first
    | (go_at_call 10; refine (unhide HP _ (unhide HB0)).mono ?_; rintro r w1 ⟨er, her, rfl, hb1⟩)
    | (go_at_call 17; refine (unhide H7 _).mono ?_; rintro r w2 ⟨rfl, hb2⟩))
  go_ret
  exact ⟨rfl, below_step (below_alloc (below_step (unhide HB0) hb1) _) hb2⟩
set_option maxHeartbeats 1000000 in
set_option maxRecDepth 100000 in
theorem law_yes (e : Ex) (hf : e.fin) (by_ : List Ex) (hbf : Ex.fins by_) (hbl : by_.length ≤ 1954687338268) (row : List Val) (hv : ∀ x ∈ row, VOk x) (hl : row.length ≤ 4398046511104) (hok : okP by_ e = true) (a aB aR : Option Addr) (c cB cR : Nat) (w : World) (ha : Ex.all w a e.args) (hA : Ex.all w aB by_) (hr : RowAt w aR row) :
    Calls Try.prog 5 #[e.val a c, .slice aB by_.length cB, .slice aR row.length cR] w fun r w' => r = .returned (.bool true) ∧ Below w.heap.size w w' := by
  obtain ⟨f, hfe⟩ : ∃ f, f = madeE (putG by_) e := ⟨_, rfl⟩
  have HP : Hid (∀ (W : World), Below w.heap.size w W → Calls Try.prog 10 #[e.val a c, .slice aB by_.length cB] W fun r w' => ∃ a2 c2, r = .returned (.tuple #[f.val a2 c2, .int .i64 0]) ∧ Ex.all w' a2 f.args ∧ Below W.heap.size W w') := fun W hW =>
    (put_any by_ hbf (by omega) aB cB e hf a c W (Ex.all_later _ ha hW) (Ex.all_later _ hA hW)).mono fun r w' hp => by
      rcases hp with ⟨h1, h2, h3, h4, a2, c2, h5, h6, h7⟩ | ⟨er, her, h, _⟩
      · rw [hfe]; exact ⟨a2, c2, h5, h6, h7⟩
      · rw [hok] at h; cases h
  have hparts : builtE e = true ∧ (∀ x ∈ by_, builtE x = true) ∧ usesB e by_.length = true ∧ builtE (madeE (putG by_) e) = true := by
    unfold okP at hok
    simp only [Bool.and_eq_true, Bool.not_eq_true', List.any_eq_false] at hok
    exact ⟨hok.1.1.1, fun x hx => by have := hok.1.1.2 x hx; simpa using this, hok.1.2, hok.2⟩
  obtain ⟨h1, h2, h3, h4⟩ := hparts
  have hff : f.fin := by rw [hfe]; exact put_fin by_ h2 hbf e (built_good h1) h3 hf
  have hev : evalB row f = evalB (by_.map (evalB row)) e := by rw [hfe]; exact putin_eval h1 h2 h3 h4
  have H7 := hide seven_any
  have HAB := hide (fun (W : World) (hW : Below w.heap.size w W) => Ex.all_later _ hA hW)
  have HEF := hide (fun a' c' W (h : Ex.all W a' f.args) (hW : Below w.heap.size w W) => evals_any f hff row hv (by omega) a' aR c' cR W h (hr.later hW))
  have HEB := hide (fun (x : Ex) (hx : x ∈ by_) a' c' W (h : Ex.all W a' x.args) (hW : Below w.heap.size w W) => evals_any x (Ex.fins_mem hbf hx) row hv (by omega) a' aR c' cR W h (hr.later hW))
  have hvl : ∀ x ∈ by_.map (evalB row), VOk x := fun y hy => by
    obtain ⟨x, hx, rfl⟩ := List.mem_map.1 hy
    exact evalB_ok hv (Ex.fins_mem hbf hx)
  have HEL := hide (fun aL cL W (h : RowAt W aL (by_.map (evalB row))) (hW : Below w.heap.size w W) => evals_any e hf (by_.map (evalB row)) hvl (by rw [List.length_map]; omega) a aL c cL W (Ex.all_later _ ha hW) h)
  rw [List.length_map, ← hev] at HEL
  have H6 : Hid (Six (w.alloc (.cells #[.int .i64 e.op, .int .i64 e.n, .int .i64 e.v.k, .int .i64 e.v.n, .string e.v.s, .slice a e.args.length c] 26)) w.heap.size e a c) := Six.new w e a c
  have HB0 := hide (below_alloc (Below.refl _ w) (.cells #[.int .i64 e.op, .int .i64 e.n, .int .i64 e.v.k, .int .i64 e.v.n, .string e.v.s, .slice a e.args.length c] 26))
  generalize evalB row f = ev at *
  rw [Ex.val_open] at HP HEL ⊢
  clear ha hA hr hv hok h1 h2 h3 h4 hff hev hfe hvl
  go_enter Try.func5, Try.ntmps5
  go_wp2_with (go_at_call 10; refine (unhide HP _ (unhide HB0)).mono ?_; rintro r w1 ⟨a2, c2, rfl, hA2, hb1⟩; rw [Ex.val_open])
  obtain ⟨wb, hwb⟩ : ∃ wb, wb = w1.alloc (.cells #[.int .i64 f.op, .int .i64 f.n, .int .i64 f.v.k, .int .i64 f.v.n, .string f.v.s, .slice a2 f.args.length c2] 26) := ⟨_, rfl⟩
  have HBB : Hid (Below w.heap.size w wb) := by rw [hwb]; exact below_alloc (below_step (unhide HB0) hb1) _
  have HY : Hid (Six wb w.heap.size e a c) := by rw [hwb]; exact (unhide H6).later (below_step hb1 (below_alloc (Below.refl _ _) _))
  have HX : Hid (Six wb w1.heap.size f a2 c2) := by rw [hwb]; exact Six.new w1 f a2 c2
  have HF : Hid (Ex.all wb a2 f.args) := by rw [hwb]; exact Ex.all_later _ hA2 (below_alloc (Below.refl _ _) _)
  rw [← hwb]
  clear hwb hA2 hb1 HP HB0 H6
  go_loopw [9, 23] (fun s9 i wr => ∃ (k : Nat) (v9 : Value), k ≤ by_.length ∧ i = .int .i64 (k : Int) ∧ s9 = v9 ∧ Hid (OwnV wr wb.heap.size v9 ((by_.take k).map (evalB row)) ∧ Below wb.heap.size wb wr)) (fun _ i _ => by_.length - (intOf i).toNat)
  case atStart => exact ⟨0, _, Nat.zero_le _, rfl, rfl, World.ownsRow_nil _ _ _ _, Below.refl _ _⟩
  case round =>
    obtain ⟨k, v9, hk, rfl, rfl, HI⟩ := hrel
    obtain ⟨hO, hB⟩ := unhide HI
    obtain ⟨a9, cap9, rfl, hrow⟩ := ownV_row hO
    rw [List.length_map, List.length_take, Nat.min_eq_left hk] at hO ⊢
    by_cases hlt : k < by_.length
    · have h9 : (k : Int) < (by_.length : Int) := by omega
      obtain ⟨x, hx⟩ : ∃ x, by_[k]? = some x := ⟨_, List.getElem?_eq_getElem hlt⟩
      have hBw := below_step (unhide HBB) hB
      obtain ⟨vb, vo, ea, hat⟩ := Ex.all_get (unhide HAB _ hBw) hx
      obtain ⟨a', c', ⟨d0, d1, d2, d3, d4, d5⟩, hal⟩ := Ex.at_open hat
      have HE := hide (unhide HEB x (List.mem_of_getElem? hx) a' c' (wr.alloc (.cells #[.int .i64 x.op, .int .i64 x.n, .int .i64 x.v.k, .int .i64 x.v.n, .string x.v.s, .slice a' x.args.length c'] 26)) (Ex.all_later _ hal (below_alloc (Below.refl _ _) _)) (below_alloc hBw _))
      rw [Ex.val_open] at HE
      have HTK := hide (map_take (evalB row) hx)
      have HBX := hide (below_alloc (Below.refl _ wr) (.cells #[.int .i64 x.op, .int .i64 x.n, .int .i64 x.v.k, .int .i64 x.v.n, .string x.v.s, .slice a' x.args.length c'] 26))
      generalize evalB row x = xv at *
      have HO := hide hO
      have HBr := hide hB
      subst ea
      clear hx hat hal hO hB HI hBw hrow HEB HEF HEL H7
      go_wp2_with (first
        | (go_at_call 16; refine (unhide HE).mono ?_; rintro r w3 ⟨rfl, hb3⟩; have hb13 := below_step (unhide HBX) hb3; rw [Val.open_])
        | (at_builtin; refine wpList_push_val (w3.alloc (.cells #[.int .i64 xv.k, .int .i64 xv.n, .string xv.s] 23)) rfl (.tmp 27) (.tmp 31) rfl wb.heap.size (.slice a9 k cap9) _ rfl ((unhide HO).later (below_alloc hb13 _)) w3.heap.size xv rfl (by refine ⟨?_, ?_, ?_⟩ <;> simp [go_sem]) (by rw [List.length_map, List.length_take]; omega) (below_alloc (below_step (unhide HBr) hb13) _).size ?_; intro v4 w4 hO4 hb4; have HO4 := hide hO4; clear hO4))
      refine ⟨⟨k + 1, v4, by omega, by go_num, rfl, ?_, ((below_alloc (below_step (unhide HBr) hb13) _).trans hb4)⟩, by simp [intOf]; omega⟩
      rw [unhide HTK]
      exact unhide HO4
    · have h9 : ¬ (k : Int) < (by_.length : Int) := by omega
      have hkl : k = by_.length := by omega
      subst hkl
      rw [List.take_length] at hrow
      have hBw := below_step (unhide HBB) hB
      have HEF2 := hide (fun (W : World) (hW : Below wr.heap.size wr W) => unhide HEF a2 c2 W (Ex.all_later _ (unhide HF) (below_step hB hW)) (below_step hBw hW))
      have HEL2 := hide (fun (W : World) (hW : Below wr.heap.size wr W) => unhide HEL a9 cap9 W (hrow.later hW) (below_step hBw hW))
      rw [Ex.val_open] at HEF2
      have HX5 := hide ((unhide HX).later hB)
      have HY5 := hide ((unhide HY).later hB)
      have HBW := hide hBw
      clear hO hB HI hBw hrow HEB HEF HEL HAB HX HY HF HBB
      go_upto_region 10 with fail
      go_cut [6] (fun v wx => v = .bool true ∧ Hid (Below w.heap.size w wx))
      case first =>
        refine wp_region_noPanic ?_
        refine wp_region_G (S := fun w' : World => Below wr.heap.size wr w') (k := 10) (by kernel_rfl) ?_
        refine anyG_takel (i := 0) (v := (.agg #[.int .i64 f.op, .int .i64 f.n, .int .i64 f.v.k, .int .i64 f.v.n, .string f.v.s, .slice a2 f.args.length c2])) [2, 6, 7, 9, 10] rfl (by kernel_rfl) (by kernel_rfl) (by kernel_rfl) (by kernel_rfl) (fun _ _ _ h => h) (Or.inl ⟨by rfl, fun w' hSw => ?_⟩) ((Below.refl _ wr).drew) ?_
        · obtain ⟨e0, e1, e2, e3, e4, e5⟩ := (unhide HY5).later hSw; obtain ⟨f0, f1, f2, f3, f4, f5⟩ := (unhide HX5).later hSw
          go_simp
        try simp only [Act.put, List.setIfInBounds_toArray, List.set_cons_zero, List.set_cons_succ]
        refine anyG_takel (i := 1) (v := (.slice aR row.length cR)) [2, 6, 7, 9, 10] rfl (by kernel_rfl) (by kernel_rfl) (by kernel_rfl) (by kernel_rfl) (fun _ _ _ h => h) (Or.inl ⟨by rfl, fun w' hSw => ?_⟩) ((Below.refl _ wr).drew) ?_
        · obtain ⟨e0, e1, e2, e3, e4, e5⟩ := (unhide HY5).later hSw; obtain ⟨f0, f1, f2, f3, f4, f5⟩ := (unhide HX5).later hSw
          go_simp
        try simp only [Act.put, List.setIfInBounds_toArray, List.set_cons_zero, List.set_cons_succ]
        refine anyG_takel (i := 3) (v := (.agg #[.int .i64 e.op, .int .i64 e.n, .int .i64 e.v.k, .int .i64 e.v.n, .string e.v.s, .slice a e.args.length c])) [5, 6, 7, 9, 10] rfl (by kernel_rfl) (by kernel_rfl) (by kernel_rfl) (by kernel_rfl) (fun _ _ _ h => h) (Or.inl ⟨by rfl, fun w' hSw => ?_⟩) ((Below.refl _ wr).drew) ?_
        · obtain ⟨e0, e1, e2, e3, e4, e5⟩ := (unhide HY5).later hSw; obtain ⟨f0, f1, f2, f3, f4, f5⟩ := (unhide HX5).later hSw
          go_simp
        try simp only [Act.put, List.setIfInBounds_toArray, List.set_cons_zero, List.set_cons_succ]
        refine anyG_takel (i := 4) (v := (.slice a9 by_.length cap9)) [5, 6, 7, 9, 10] rfl (by kernel_rfl) (by kernel_rfl) (by kernel_rfl) (by kernel_rfl) (fun _ _ _ h => h) (Or.inl ⟨by rfl, fun w' hSw => ?_⟩) ((Below.refl _ wr).drew) ?_
        · obtain ⟨e0, e1, e2, e3, e4, e5⟩ := (unhide HY5).later hSw; obtain ⟨f0, f1, f2, f3, f4, f5⟩ := (unhide HX5).later hSw
          go_simp
        try simp only [Act.put, List.setIfInBounds_toArray, List.set_cons_zero, List.set_cons_succ]
        refine anyG_one (i := 2) (by kernel_rfl) ?_
        refine wpOp_lit rfl (by rfl) fun K' hK' => ?_
        go_simp
        refine (unhide HEF2 wr.drew ((Below.refl _ wr).drew)).mono ?_
        rintro r w6 ⟨rfl, hb6⟩
        go_simp
        have hS6 : Below wr.heap.size wr w6 := below_step ((Below.refl _ wr).drew) hb6
        refine unhide hK' _ _ ⟨fun _ => hS6, ?_⟩
        clear hK' K'
        refine anyG_one (i := 5) (by kernel_rfl) ?_
        refine wpOp_lit rfl (by rfl) fun K' hK' => ?_
        go_simp
        refine (unhide HEL2 w6 hS6).mono ?_
        rintro r w7 ⟨rfl, hb7⟩
        go_simp
        have hS7 : Below wr.heap.size wr w7 := below_step hS6 hb7
        refine unhide hK' _ _ ⟨fun _ => hS7, ?_⟩
        clear hK' K'
        refine anyG_takel (i := 6) (v := (.bool true)) [7, 9, 10] rfl (by kernel_rfl) (by kernel_rfl) (by kernel_rfl) (by kernel_rfl) (fun _ _ _ h => h) (Or.inl ⟨by rfl, fun w' hSw => ?_⟩) hS7 ?_
        · rw [Val.open_]
          have hq := eqV_same ev w'
          have hg : (eqGuard .eql 23 (.tmp 36) (.tmp 39) (.agg #[.int .i64 ev.k, .int .i64 ev.n, .string ev.s]) (.agg #[.int .i64 ev.k, .int .i64 ev.n, .string ev.s])).run Try.prog w' = .ok () w' := run_eqGuard_agg w' .eql 23 (.tmp 36) (.tmp 39) _ _ (by kernel_rfl)
          unfold execOp
          simp only [Sem.run_bind]
          erw [hg]
          simp only [Result.andThen_ok]
          erw [hq]
          simp only [Result.andThen_ok, Sem.run_pure]
        try simp only [Act.put, List.setIfInBounds_toArray, List.set_cons_zero, List.set_cons_succ]
        refine anyG_takel (i := 7) (v := (.bool true)) [9, 10] rfl (by kernel_rfl) (by kernel_rfl) (by kernel_rfl) (by kernel_rfl) (fun _ _ _ h => h) (Or.inl ⟨by rfl, fun w' hSw => ?_⟩) hS7 ?_
        · clear hS6 hS7
          go_simp
        try simp only [Act.put, List.setIfInBounds_toArray, List.set_cons_zero, List.set_cons_succ]
        refine anyG_one (i := 8) (by kernel_rfl) ?_
        refine wpOp_lit rfl (by rfl) fun K' hK' => ?_
        go_simp
        refine (unhide H7 w7).mono ?_
        rintro r w8 ⟨rfl, hb8⟩
        go_simp
        have hS8 : Below wr.heap.size wr w8 := below_step hS7 hb8
        refine unhide hK' _ _ ⟨fun _ => hS8, ?_⟩
        clear hK' K'
        refine anyG_takel (i := 9) (v := (.bool true)) [10] rfl (by kernel_rfl) (by kernel_rfl) (by kernel_rfl) (by kernel_rfl) (fun _ _ _ h => h) (Or.inl ⟨by rfl, fun w' hSw => ?_⟩) hS8 ?_
        · clear hS6 hS7 hS8
          go_simp
        try simp only [Act.put, List.setIfInBounds_toArray, List.set_cons_zero, List.set_cons_succ]
        refine anyG_one (i := 10) (by kernel_rfl) ?_
        refine wpOp_lit rfl (by rfl) fun K' hK' => ?_
        go_simp
        refine unhide hK' _ _ ⟨fun hh => absurd hh (by decide), ?_⟩
        clear hK' K'
        refine anyG_done (by kernel_rfl) ?_ _
        refine NoPanic.normal ?_
        go_wp2
        go_meet
        exact ⟨rfl, below_step (unhide HBW) hS8⟩
      case rest =>
        obtain ⟨rfl, HBC⟩ := hcut
        go_wp2
        go_ret
        exact ⟨rfl, unhide HBC⟩
theorem law_pi (e : Ex) (hf : e.fin) (by_ : List Ex) (hbf : Ex.fins by_) (hbl : by_.length ≤ 1954687338268) (row : List Val) (hv : ∀ x ∈ row, VOk x) (hl : row.length ≤ 4398046511104) (a aB aR : Option Addr) (c cB cR : Nat) (w : World) (ha : Ex.all w a e.args) (hA : Ex.all w aB by_) (hr : RowAt w aR row) :
    Calls Try.prog 5 #[e.val a c, .slice aB by_.length cB, .slice aR row.length cR] w fun r w' => r = .returned (.bool true) ∧ Below w.heap.size w w' := by
  cases hok : okP by_ e with
  | true => exact law_yes e hf by_ hbf hbl row hv hl hok a aB aR c cB cR w ha hA hr
  | false => exact law_no e hf by_ hbf hbl row hok a aB aR c cB cR w ha hA
end Go.Proofs.Ytfnacpkodfhfoac

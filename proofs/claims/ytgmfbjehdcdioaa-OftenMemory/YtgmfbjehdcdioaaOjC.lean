import Derived.Test.YtgmfbjehdcdioaaOjB
set_option linter.unusedSimpArgs false
set_option linter.unusedVariables false
set_option maxRecDepth 100000
namespace Go.Proofs.Ytgmfbjehdcdioaa
open Go.RowKit Go.Sort

def agF (v : Cn) : Value := .agg #[.int .i64 v.k, .int .i64 v.n, .string v.s, .int .i64 v.lo, .int .i64 v.hi]
theorem SpS.start {w : World} {S : Value} {ys : List Cn} (ho : OwnF w 0 S ys) (v : Cn) : SpS w (w.alloc (.cells #[.int .i64 v.k, .int .i64 v.n, .string v.s, .int .i64 v.lo, .int .i64 v.hi] 47)) S ys.length w.heap.size v := by
  have hb : Below w.heap.size w (w.alloc (.cells #[.int .i64 v.k, .int .i64 v.n, .string v.s, .int .i64 v.lo, .int .i64 v.hi] 47)) := below_alloc (Below.refl _ _) _
  exact ⟨⟨ys, rfl, own_later ho hb⟩, grown_none hb _, by simp [go_sem], by simp [go_sem], by simp [go_sem], by simp [go_sem], by simp [go_sem], Nat.le_refl _, fun g hg => (World.ownsRow.lt ho g hg).2⟩
theorem SpS.put {w wr : World} {g cap n bx i : Nat} {v : Cn} (h : SpS w wr (.slice (some ⟨g, 0, none⟩) n cap) n bx v) (hi : i < n) :
    (∃ y : Cn, wr.cell? ⟨g, i * 5, none⟩ = some (.int .i64 y.k) ∧ wr.cell? ⟨g, i * 5 + 1, none⟩ = some (.int .i64 y.n) ∧ wr.cell? ⟨g, i * 5 + 2, none⟩ = some (.string y.s) ∧ wr.cell? ⟨g, i * 5 + 3, none⟩ = some (.int .i64 y.lo) ∧ wr.cell? ⟨g, i * 5 + 4, none⟩ = some (.int .i64 y.hi)) ∧ (∀ j, wr.frozen? ⟨g, j, none⟩ = false) ∧ bx ≠ g ∧
    SpS w (((((wr.setCell ⟨g, i * 5, none⟩ (.int .i64 v.k)).setCell ⟨g, i * 5 + 1, none⟩ (.int .i64 v.n)).setCell ⟨g, i * 5 + 2, none⟩ (.string v.s)).setCell ⟨g, i * 5 + 3, none⟩ (.int .i64 v.lo)).setCell ⟨g, i * 5 + 4, none⟩ (.int .i64 v.hi)) (.slice (some ⟨g, 0, none⟩) n cap) n bx v := by
  obtain ⟨zs, hz, ho⟩ := h.own
  have hgl : g < w.heap.size := h.lt g rfl
  have hbg : bx ≠ g := by have := h.bn; omega
  obtain ⟨y, hy⟩ : ∃ y, zs[i]? = some y := ⟨_, List.getElem?_eq_getElem (by omega)⟩
  have hN := ho.len
  have hfz : ∀ j, wr.frozen? ⟨g, j, none⟩ = false := fun j => by have := ho; subst hN; exact World.ownsRow.frozenAt this j
  have h5 := ho.put (j := i) (by omega) v
  obtain ⟨X, hX⟩ : ∃ X, (((((wr.setCell ⟨g, i * 5, none⟩ (.int .i64 v.k)).setCell ⟨g, i * 5 + 1, none⟩ (.int .i64 v.n)).setCell ⟨g, i * 5 + 2, none⟩ (.string v.s)).setCell ⟨g, i * 5 + 3, none⟩ (.int .i64 v.lo)).setCell ⟨g, i * 5 + 4, none⟩ (.int .i64 v.hi)) = X := ⟨_, rfl⟩
  have hg : wr.grownBy X (some g) := by
    rw [← hX]
    have hset : ∀ (Y : World) (a : Nat) (u : Value), Y.grownBy (Y.setCell ⟨g, a, none⟩ u) (some g) := fun Y a u => ⟨rfl, rfl, rfl, by simp [World.setCell], fun k _ hn => Below.heap_setCell _ _ _ _ (fun e => hn (by rw [e]))⟩
    have hr : ∀ q, some g = some q → some g = some q ∨ wr.heap.size ≤ q := fun q hq => .inl hq
    exact grownBy_after (grownBy_after (grownBy_after (grownBy_after (hset _ _ _) (hset _ _ _) hr) (hset _ _ _) hr) (hset _ _ _) hr) (hset _ _ _) hr
  rw [hX] at h5 ⊢
  have hcell : ∀ (j : Nat) (u : Value), wr.cell? ⟨bx, j, none⟩ = some u → X.cell? ⟨bx, j, none⟩ = some u := fun j u hu => by
    have hl : bx < wr.heap.size := World.block_lt_of_cell? _ _ hu
    rw [← hu]; unfold World.cell?
    rw [hg.block bx hl fun e => hbg (by injection e)]
  have hf : (wr.cell? ⟨g, i * 5, none⟩ = some (.int .i64 y.k) ∧ wr.cell? ⟨g, i * 5 + 1, none⟩ = some (.int .i64 y.n) ∧ wr.cell? ⟨g, i * 5 + 2, none⟩ = some (.string y.s) ∧ wr.cell? ⟨g, i * 5 + 3, none⟩ = some (.int .i64 y.lo) ∧ wr.cell? ⟨g, i * 5 + 4, none⟩ = some (.int .i64 y.hi)) := by
    have hil : i < zs.length := by omega
    subst hN
    refine ⟨?_, ?_, ?_, ?_, ?_⟩
    · rw [World.ownsRow.cellAt ho (i * 5) (by omega)]; exact c5_at zs i 0 y hy (by omega)
    · rw [World.ownsRow.cellAt ho (i * 5 + 1) (by omega)]; exact c5_at zs i 1 y hy (by omega)
    · rw [World.ownsRow.cellAt ho (i * 5 + 2) (by omega)]; exact c5_at zs i 2 y hy (by omega)
    · rw [World.ownsRow.cellAt ho (i * 5 + 3) (by omega)]; exact c5_at zs i 3 y hy (by omega)
    · rw [World.ownsRow.cellAt ho (i * 5 + 4) (by omega)]; exact c5_at zs i 4 y hy (by omega)
  exact ⟨⟨y, hf⟩, hfz, hbg, ⟨zs.set i v, by rw [List.length_set]; exact hz, h5⟩, grownBy_after h.gr hg fun q hq => .inl hq, hcell _ _ h.b0, hcell _ _ h.b1, hcell _ _ h.b2, hcell _ _ h.b3, hcell _ _ h.b4, h.bn, h.lt⟩
theorem wp_app_run {o : Oper} {a : Act} {w : World} {K : Act → World → Prop} {Q : Exit → Act → World → Prop} (d x : Operand) (hop : o.op = Op.call { callee := Callee.builtin Builtin.append, args := #[d, x], argTypes := #[42, 42] })
    (s u : Value) (hd : a.eval d = s) (hx : a.eval x = u) {v' : Value} {w' : World} (hr : (Builtin.append_ #[42, 42] o.type #[s, u]).run Try.prog w = .ok v' w') (h : K (a.put o.dst v') w') : o.wp Try.prog a w K Q := by
  unfold Oper.wp execOp
  simp only [hop, resolve, invoke, builtin, Sem.run_bind, Sem.run_pure, Result.andThen_ok, List.map_toArray, List.map_cons, List.map_nil, hd, hx, hr]
  exact h
theorem wpList_app_run {ops : Array Oper} {rest : List Oper} {o : Oper} {a : Act} {w : World} {Q : Exit → Act → World → Prop} (hgd : o.guard = none) (d x : Operand) (hop : o.op = Op.call { callee := Callee.builtin Builtin.append, args := #[d, x], argTypes := #[42, 42] })
    (s u : Value) (hd : a.eval d = s) (hx : a.eval x = u) {v' : Value} {w' : World} (hr : (Builtin.append_ #[42, 42] o.type #[s, u]).run Try.prog w = .ok v' w') (h : wpList Try.prog ops Q rest (a.put o.dst v') w') : wpList Try.prog ops Q (o :: rest) a w :=
  wpList_plain hgd fun _ hK => wp_app_run d x hop s u hd hx hr (hK _ _ h)
/-- The value in a list of one, in new memory. -/
theorem one_cells (W : World) (v : Cn) : ∀ j u, ([v].flatMap c5)[j]? = some u → (W.alloc (.cells #[.int .i64 v.k, .int .i64 v.n, .string v.s, .int .i64 v.lo, .int .i64 v.hi] 47)).cell? ((⟨W.heap.size, 0, none⟩ : Addr).add j) = some u := fun j u hu => by
  rw [Addr.add_lit]
  match j, hu with
  | 0, hu => simp [c5] at hu; subst hu; simp [go_sem]
  | 1, hu => simp [c5] at hu; subst hu; simp [go_sem]
  | 2, hu => simp [c5] at hu; subst hu; simp [go_sem]
  | 3, hu => simp [c5] at hu; subst hu; simp [go_sem]
  | 4, hu => simp [c5] at hu; subst hu; simp [go_sem]
  | j + 5, hu => simp [c5] at hu
theorem SpT.one {w wr : World} {S T : Value} {n bx N : Nat} {v : Cn} (hS : SpS w wr S n bx v) (h : SpT w wr S n bx T N) (ty : TypeId) (hl : N + 1 ≤ 1048576) :
    ∃ T' w', (Builtin.append_ #[42, 42] ty #[T, .slice (some ⟨wr.heap.size, 0, none⟩) 1 1]).run Try.prog (wr.alloc (.cells #[.int .i64 v.k, .int .i64 v.n, .string v.s, .int .i64 v.lo, .int .i64 v.hi] 47)) = .ok T' w' ∧ SpS w w' S n bx v ∧ SpT w w' S n bx T' (N + 1) := by
  have hb : Below wr.heap.size wr (wr.alloc (.cells #[.int .i64 v.k, .int .i64 v.n, .string v.s, .int .i64 v.lo, .int .i64 v.hi] 47)) := below_alloc (Below.refl _ _) _
  exact SpT.app (hS.later hb) (h.later hb) ty ⟨wr.heap.size, 0, none⟩ (ys := [v]) rfl (one_cells wr v) hl (by omega)

set_option maxHeartbeats 4000000 in
theorem spoilt_any {w : World} {S : Value} {ys : List Cn} (ho : OwnF w 0 S ys) (hl : ys.length ≤ 1024) (v : Cn) : Calls Try.prog 13 #[S, .agg #[.int .i64 v.k, .int .i64 v.n, .string v.s, .int .i64 v.lo, .int .i64 v.hi]] w fun e w' => e = .returned (.tuple #[]) ∧ w.grownBy w' S.ownBlock := by
  have HS0 := hide (SpS.start ho v)
  obtain ⟨n, hn⟩ : ∃ n, ys.length = n := ⟨_, rfl⟩
  obtain ⟨bx, hbx⟩ : ∃ bx, w.heap.size = bx := ⟨_, rfl⟩
  rw [hn, hbx] at HS0
  rw [hn] at hl
  obtain ⟨aS, cS, hS⟩ := ho.slice
  rw [hn] at hS
  subst hS
  clear ho hn
  go_enter Try.func13, Try.ntmps13
  go_wp2_with fail
  go_loopw [11] (fun s11 wr => ∃ i : Nat, s11 = .int .i64 (i : Int) ∧ i ≤ n ∧ Hid (SpS w wr (.slice aS n cS) n bx v)) (fun s _ => n - (intOf s).toNat)
  case atStart => exact ⟨0, rfl, Nat.zero_le _, HS0⟩
  case round =>
    obtain ⟨i, rfl, hin, HS⟩ := hrel
    clear HS0
    by_cases hi : i < n
    · obtain ⟨g, hg⟩ : ∃ g, aS = some ⟨g, 0, none⟩ := by
        obtain ⟨zs, hz, ho⟩ := (unhide HS).own
        rcases ho.2 with ⟨_, h0⟩ | ⟨g, cap, cur, e, _⟩
        · omega
        · injection e with e1 _ _; exact ⟨g, e1⟩
      subst hg
      obtain ⟨⟨y, e0, e1, e2, e3, e4⟩, ez, hbg, hS2⟩ := (unhide HS).put hi
      have z0 := ez (i * 5)
      have z1 := ez (i * 5 + 1)
      have z2 := ez (i * 5 + 2)
      have z3 := ez (i * 5 + 3)
      have z4 := ez (i * 5 + 4)
      have b0 := (unhide HS).b0
      have b1 := (unhide HS).b1
      have b2 := (unhide HS).b2
      have b3 := (unhide HS).b3
      have b4 := (unhide HS).b4
      have HS2 := hide hS2
      have i1 : (i : Int) < (n : Int) := by omega
      have hgb : ¬ g = bx := fun e => hbg e.symm
      clear ez hS2
      go_wp2
      go_roundw
      case rel => exact ⟨i + 1, by go_num, by omega, HS2⟩
      case measure => simp [intOf]; omega
    · obtain rfl : i = n := by omega
      have HT0 : Hid (SpT w wr (.slice aS i cS) i bx (.slice aS i cS) i) := by
        refine ⟨(unhide HS).own, ?_⟩
        obtain ⟨zs, hz, ho⟩ := (unhide HS).own
        rcases ho.2 with ⟨e, _⟩ | ⟨g, cap, cur, e, _⟩
        · right
          rw [e]; intro g hg; cases hg
        · left
          injection e with e1 _ _
          subst e1
          exact ⟨g, cS, rfl, rfl, Nat.le_refl _⟩
      go_wp2_with fail
      go_loopw [5, 6] (fun s5 s6 wq => ∃ (j : Nat) (T : Value), s5 = T ∧ s6 = .int .i64 (j : Int) ∧ j ≤ 20 ∧ Hid (SpS w wq (.slice aS i cS) i bx v) ∧ Hid (SpT w wq (.slice aS i cS) i bx T (i + j))) (fun _ s _ => 20 - (intOf s).toNat)
      case atStart => exact ⟨0, _, rfl, rfl, Nat.zero_le _, HS, HT0⟩
      case round =>
        obtain ⟨j, T, rfl, rfl, hj, HQ, HT⟩ := hrel
        clear HS HT0
        obtain ⟨aT, cT, hT⟩ := (unhide HT).slice
        subst hT
        by_cases hj2 : j < 20
        · have b0 := (unhide HQ).b0
          have b1 := (unhide HQ).b1
          have b2 := (unhide HQ).b2
          have b3 := (unhide HQ).b3
          have b4 := (unhide HQ).b4
          obtain ⟨T', w', hrun, hQ', hT'⟩ := SpT.one (unhide HQ) (unhide HT) 42 (by omega)
          have HQ' := hide hQ'
          have HT' := hide hT'
          have i1 : (j : Int) < 20 := by omega
          clear hQ' hT'
          go_wp2_with (at_builtin; refine wpList_app_run rfl (.tmp 24) (.tmp 26) rfl _ _ rfl rfl hrun ?_)
          go_roundw
          case rel => exact ⟨j + 1, T', rfl, by go_num, by omega, HQ', HT'⟩
          case measure => simp [intOf]; omega
        · have i1 : ¬ (j : Int) < 20 := by omega
          have HM0 : Hid (SpT w wr (.slice aS i cS) i bx (.slice none 0 0) 0) := ⟨⟨[], rfl, rfl, .inl ⟨rfl, rfl⟩⟩, .inr fun g hg => by cases hg⟩
          clear HT
          go_wp2_with fail
          go_loopw [7, 8] (fun s7 s8 wq => ∃ (j : Nat) (M : Value), M = s7 ∧ s8 = .int .i64 (j : Int) ∧ j ≤ 64 ∧ Hid (SpS w wq (.slice aS i cS) i bx v) ∧ Hid (∃ zs : List Cn, zs.length = j ∧ OwnF wq 0 M zs ∧ ∀ g, M.ownBlock = some g → w.heap.size ≤ g ∧ g ≠ bx)) (fun _ s _ => 64 - (intOf s).toNat)
          case atStart => exact ⟨0, _, rfl, rfl, Nat.zero_le _, HQ, ⟨[], rfl, ⟨rfl, .inl ⟨rfl, rfl⟩⟩, fun g hg => by cases hg⟩⟩
          case round =>
            obtain ⟨q, M, rfl, rfl, hq, HR, HM⟩ := hrel
            clear HQ HM0 i1
            obtain ⟨zs, hz, hoM, hnM⟩ := unhide HM
            have HMT : Hid (SpT w wr (.slice aS i cS) i bx M q) := ⟨⟨zs, hz, hoM⟩, .inr hnM⟩
            obtain ⟨aM, cM, hMs⟩ := (unhide HMT).slice
            by_cases hq2 : q < 64
            · have b0 := (unhide HR).b0
              have b1 := (unhide HR).b1
              have b2 := (unhide HR).b2
              have b3 := (unhide HR).b3
              have b4 := (unhide HR).b4
              have hb : Below wr.heap.size wr (wr.alloc (.cells #[.int .i64 v.k, .int .i64 v.n, .string v.s, .int .i64 v.lo, .int .i64 v.hi] 47)) := below_alloc (Below.refl _ _) _
              have hoM' : (wr.alloc (.cells #[.int .i64 v.k, .int .i64 v.n, .string v.s, .int .i64 v.lo, .int .i64 v.hi] 47)).ownsRow 0 47 5 M q (zs.flatMap c5) := by
                have := own_later hoM hb
                rw [hz] at this
                exact this
              obtain ⟨M', w', hrun, h2, h3⟩ := app_two (c := 1) 42 hoM' ⟨wr.heap.size, 0, none⟩ (ys := [v]) (m := 1) rfl (one_cells wr v) (by omega) (by omega) (Nat.zero_le _)
              have hRb := (unhide HR).later hb
              have HR' : Hid (SpS w w' (.slice aS i cS) i bx v) := by
                rcases h3 with ⟨g, cap, e1, e2, hg⟩ | ⟨_, hb2⟩
                · exact hRb.other hg fun z hz => hnM z (by rw [e1]; exact hz)
                · exact hRb.later hb2
              have HM' : Hid (∃ zs : List Cn, zs.length = q + 1 ∧ OwnF w' 0 M' zs ∧ ∀ g, M'.ownBlock = some g → w.heap.size ≤ g ∧ g ≠ bx) := by
                refine ⟨zs ++ [v], by simp [hz], by unfold OwnF; rw [List.length_append, hz]; exact h2, fun g hg => ?_⟩
                rcases h3 with ⟨g', cap, e1, e2, _⟩ | ⟨hnew, hb2⟩
                · exact hnM g (by rw [e1]; rw [e2] at hg; exact hg)
                · have h7 := hnew g hg
                  have h8 := hRb.gr.size
                  have h9 : bx < (wr.alloc (.cells #[.int .i64 v.k, .int .i64 v.n, .string v.s, .int .i64 v.lo, .int .i64 v.hi] 47)).heap.size := World.block_lt_of_cell? _ _ hRb.b0
                  exact ⟨by omega, by omega⟩
              have i1 : (q : Int) < 64 := by omega
              subst hMs
              clear hoM hnM hoM' h2 h3 hRb hb HMT HM hz
              go_wp2_with (at_builtin; refine wpList_app_run rfl (.tmp 32) (.tmp 34) rfl _ _ rfl rfl hrun ?_)
              go_roundw
              case rel => exact ⟨q + 1, M', rfl, by go_num, by omega, HR', HM'⟩
              case measure => simp [intOf]; omega
            · obtain rfl : q = 64 := by omega
              obtain ⟨gM, hgM⟩ : ∃ gM, aM = some ⟨gM, 0, none⟩ := by
                rcases hoM.2 with ⟨e, h0⟩ | ⟨g, cap, cur, e, _⟩
                · omega
                · rw [hMs] at e; injection e with e1 _ _; exact ⟨g, e1⟩
              subst hgM
              have hcells : ∀ j u, (zs.flatMap c5)[j]? = some u → wr.cell? ((⟨gM, 0, none⟩ : Addr).add j) = some u := by
                have := hoM
                rw [hMs] at this
                unfold OwnF at this
                rw [hz] at this
                exact this.cells (g := gM) rfl
              have HST : Hid (SpT w wr (.slice aS i cS) i bx (.slice aS i cS) i) := by
                refine ⟨(unhide HR).own, ?_⟩
                obtain ⟨zs', hz', ho'⟩ := (unhide HR).own
                rcases ho'.2 with ⟨e, _⟩ | ⟨g, cap, cur, e, _⟩
                · right
                  rw [e]; intro g hg; cases hg
                · left
                  injection e with e1 _ _
                  subst e1
                  exact ⟨g, cS, rfl, rfl, Nat.le_refl _⟩
              obtain ⟨T', w', hrun, hQ', _⟩ := SpT.app (c := cM) (unhide HR) (unhide HST) 42 ⟨gM, 0, none⟩ (ys := zs) (m := 64) hz.symm hcells (by omega) (by omega)
              have HF := hide hQ'.gr
              subst hMs
              clear hoM hnM hcells hQ' HST HMT HM hz
              go_wp2_with (at_builtin; refine wpList_app_run rfl (.tmp 36) (.tmp 37) rfl _ _ rfl rfl hrun ?_)
              go_end0
              exact ⟨rfl, unhide HF⟩
end Go.Proofs.Ytgmfbjehdcdioaa

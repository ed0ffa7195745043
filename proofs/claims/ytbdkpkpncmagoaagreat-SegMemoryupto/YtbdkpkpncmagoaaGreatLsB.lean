import Derived.Test.YtbdkpkpncmagoaaGreatLsA
import Derived.Test.YtbdkpkpncmagoaaGreatQSrR
import Derived.Deep.CutRange
import Derived.Deep.RegionHeld3
set_option linter.unusedSimpArgs false
set_option linter.unusedVariables false
set_option maxRecDepth 100000
namespace Go.Proofs.YtbdkpkpncmagoaaGreat
open Go.RowKit Go.Sort

theorem StF.rowsE {w0 w w' : World} {VB : List Vf} (h : StF w0 w VB) (hb : Below w.heap.size w w') {base : Nat} (hw : w.heap.size ≤ base) {a : Option Addr} {c : Nat} {rs : List (List Val)} {cs : List Value} (hx : RwO w' (fun b => base ≤ b ∧ b < w'.heap.size) a c rs cs) : ∃ F, StF w0 w' (Vf.rows F a c rs :: VB) := ⟨_, h.rows hb hw hx⟩
/-- Three lists that are made together. -/
theorem StF.head {w0 w w' : World} {VB : List Vf} (h : StF w0 w VB) (hb : Below w.heap.size w w') {b n : Nat} (hw : w.heap.size ≤ b) {lv hv nv : Value} {L G : List Val} {Nu : List Int} (h1 : OwnV w' b lv L) (h2 : OwnV w' b hv G) (hn : n = Nu.length) (h3 : w'.ownsRow b 3 1 nv n (Nu.map (.int .i64))) (ha : Go.Proofs.YtbdkpkpncmagoaaGreat.apart lv hv) : StF w0 w' (Vf.vals lv L :: Vf.vals hv G :: Vf.ints nv Nu :: VB) := by
  subst hn
  have h0 := h.below hb
  have hold : ∀ u ∈ VB, ∀ q, u.F q → q < w.heap.size := fun u hu q hq => ((h.all u hu).2 q hq).2
  have hs := h.bel.size
  have b1 : ∀ q, lv.ownBlock = some q → b ≤ q ∧ q < w'.heap.size := fun q hq => World.ownsRow.lt h1 q hq
  have b2 : ∀ q, hv.ownBlock = some q → b ≤ q ∧ q < w'.heap.size := fun q hq => World.ownsRow.lt h2 q hq
  have b3 : ∀ q, nv.ownBlock = some q → b ≤ q ∧ q < w'.heap.size := fun q hq => World.ownsRow.lt h3 q hq
  refine ⟨h0.bel, fun v hv' => ?_, List.pairwise_cons.2 ⟨fun u hu q hq huq => ?_, List.pairwise_cons.2 ⟨fun u hu q hq huq => ?_, List.pairwise_cons.2 ⟨fun u hu q hq huq => ?_, h0.apart⟩⟩⟩⟩
  · rcases List.mem_cons.1 hv' with rfl | hv'
    · exact ⟨own_lessB h1 (Nat.zero_le _), fun q hq => by have := b1 q hq; omega⟩
    rcases List.mem_cons.1 hv' with rfl | hv'
    · exact ⟨own_lessB h2 (Nat.zero_le _), fun q hq => by have := b2 q hq; omega⟩
    rcases List.mem_cons.1 hv' with rfl | hv'
    · exact ⟨own_lessB h3 (Nat.zero_le _), fun q hq => by have := b3 q hq; omega⟩
    · exact h0.all v hv'
  · rcases List.mem_cons.1 hu with rfl | hu
    · rcases ha with e | e
      · rw [show lv.ownBlock = some q from hq] at e; cases e
      · exact e ((show lv.ownBlock = some q from hq).trans (show hv.ownBlock = some q from huq).symm)
    rcases List.mem_cons.1 hu with rfl | hu
    · exact own_diff h1 h3 (by decide) q hq huq
    · have := hold u hu q huq; have := b1 q hq; omega
  · rcases List.mem_cons.1 hu with rfl | hu
    · exact own_diff h2 h3 (by decide) q hq huq
    · have := hold u hu q huq; have := b2 q hq; omega
  · have := hold u hu q huq; have := b3 q hq; omega
theorem box4_facts {w : World} {b t : Nat} {u0 u1 u2 u3 : Value} (h : w.rowIs b t 4 (box4 u0 u1 u2 u3)) : (w.cell? ⟨b, 0, none⟩ = some u0 ∧ w.cell? ⟨b, 1, none⟩ = some u1 ∧ w.cell? ⟨b, 2, none⟩ = some u2 ∧ w.cell? ⟨b, 3, none⟩ = some u3) ∧ w.frozen? ⟨b, 0, none⟩ = false ∧ w.frozen? ⟨b, 1, none⟩ = false ∧ w.frozen? ⟨b, 2, none⟩ = false ∧ w.frozen? ⟨b, 3, none⟩ = false :=
  ⟨⟨World.rowIs.cell h (i := 0) (by decide), World.rowIs.cell h (i := 1) (by decide), World.rowIs.cell h (i := 2) (by decide), World.rowIs.cell h (i := 3) (by decide)⟩, World.rowIs.frozen h 0, World.rowIs.frozen h 1, World.rowIs.frozen h 2, World.rowIs.frozen h 3⟩
theorem step_app_run {ops : Array Oper} {o : Oper} {a : Act} {w : World} {K : Act → World → Prop} {Q : Exit → Act → World → Prop} {E : Prop} (hgd : o.guard = none) (d x : Operand) (st : TypeId) (hop : o.op = Op.call { callee := Callee.builtin Builtin.append, args := #[d, x], argTypes := #[st, st] })
    (s u : Value) (hd : a.eval d = s) (hx : a.eval x = u) {v' : Value} {w' : World} (hr : (Builtin.append_ #[st, st] o.type #[s, u]).run Tryz.prog w = .ok v' w') (h : K (a.put o.dst v') w') : if Region.wanted o (yielded ops a.tmps) = true then Oper.wp Tryz.prog o a w K Q else E := by
  have hw : Region.wanted o (yielded ops a.tmps) = true := by simp [Region.wanted, hgd]
  rw [if_pos hw]
  exact wp_app_run d x st hop s u hd hx hr h
/-- append([]int{}, l...) where the empty list was made ahead. -/
theorem copy_late2 (W w1 : World) (hb1 : Below (W.alloc (.cells #[] 3)).heap.size (W.alloc (.cells #[] 3)) w1) (zs : List Int) (c : Nat) (a : Option Addr) (hla : LisAt w1 a (zs.map (.int .i64))) (hn : a = none → c = 0) (hl : zs.length ≤ 4194304) :
    ∃ a' c' w', (Builtin.append_ #[22, 22] 22 #[.slice (some ⟨W.heap.size, 0, none⟩) 0 0, .slice a zs.length c]).run Tryz.prog w1 = .ok (.slice a' zs.length c') w' ∧ w'.ownsRow W.heap.size 3 1 (.slice a' zs.length c') zs.length (zs.map (.int .i64)) ∧ w1.grownBy w' (some W.heap.size) := by
  obtain ⟨i2, hi2, z20, z21, z22⟩ := info_parts Tryz.info3
  have hE : w1.ownsRow W.heap.size 3 1 (.slice (some ⟨W.heap.size, 0, none⟩) 0 0) 0 [] := own_later
    ⟨rfl, .inr ⟨W.heap.size, 0, #[], rfl, Nat.le_refl _, by show (W.heap.push _)[W.heap.size]? = _; rw [Array.getElem?_push_size], Nat.le_refl _, Nat.zero_le _, rfl, rfl⟩⟩ hb1
  have hb : Below W.heap.size W w1 := below_one hb1
  have hc := lis_cells hla
  rw [List.length_map] at hc
  have hone : ∀ u ∈ zs.map (Value.int .i64), u.oneCell' = true := fun u hu => by obtain ⟨y, _, rfl⟩ := List.mem_map.1 hu; rfl
  cases a with
  | none =>
    have h0 : zs.length = 0 := by
      rcases hc with h | ⟨ad, h, _⟩
      · exact h
      · cases h
    obtain rfl : zs = [] := List.eq_nil_of_length_eq_zero h0
    obtain rfl := hn rfl
    exact ⟨_, _, _, run_append_owned_none (P := Tryz.prog) _ W.heap.size 22 22 3 i2 1 Tryz.underlying22 hi2 _ 0 [] hE, hE, ⟨rfl, rfl, rfl, Nat.le_refl _, fun _ _ _ => rfl⟩⟩
  | some ad =>
    have hcells : ∀ j u, (zs.map (Value.int .i64))[j]? = some u → w1.cell? (ad.add j) = some u := by
      rcases hc with h | ⟨ad', h, h2⟩
      · obtain rfl : zs = [] := List.eq_nil_of_length_eq_zero h
        intro j u hu; simp at hu
      · injection h with h; subst h; exact h2
    obtain ⟨T, w', hr, h2, h3, _, h5⟩ := run_append_own_at (P := Tryz.prog) (w := w1) W.heap.size 22 22 3 i2 (.int .i64 0) 1 8 Tryz.underlying22 hi2 z20 z21 z22 rfl (by decide) _ 0 [] hE ad zs.length c (zs.map (.int .i64)) (by simp) hcells hone (by unfold maxLen; omega) (by omega) hb.size
    rw [Nat.zero_add, List.nil_append] at h2
    obtain ⟨a', c', hT⟩ := own_slice h2
    subst hT
    exact ⟨a', c', w', hr, h2, h3⟩
/-- A list of numbers and one of values, made together. -/
theorem StF.pair {w0 w w' : World} {VB : List Vf} (h : StF w0 w VB) (hb : Below w.heap.size w w') {b n : Nat} (hw : w.heap.size ≤ b) {lv nv : Value} {L : List Val} {Nu : List Int} (h1 : OwnV w' b lv L) (hn : n = Nu.length) (h3 : w'.ownsRow b 3 1 nv n (Nu.map (.int .i64))) : StF w0 w' (Vf.ints nv Nu :: Vf.vals lv L :: VB) := by
  subst hn
  have h0 := h.below hb
  have hold : ∀ u ∈ VB, ∀ q, u.F q → q < w.heap.size := fun u hu q hq => ((h.all u hu).2 q hq).2
  have hs := h.bel.size
  have b1 : ∀ q, lv.ownBlock = some q → b ≤ q ∧ q < w'.heap.size := fun q hq => World.ownsRow.lt h1 q hq
  have b3 : ∀ q, nv.ownBlock = some q → b ≤ q ∧ q < w'.heap.size := fun q hq => World.ownsRow.lt h3 q hq
  refine ⟨h0.bel, fun v hv' => ?_, List.pairwise_cons.2 ⟨fun u hu q hq huq => ?_, List.pairwise_cons.2 ⟨fun u hu q hq huq => ?_, h0.apart⟩⟩⟩
  · rcases List.mem_cons.1 hv' with rfl | hv'
    · exact ⟨own_lessB h3 (Nat.zero_le _), fun q hq => by have := b3 q hq; omega⟩
    rcases List.mem_cons.1 hv' with rfl | hv'
    · exact ⟨own_lessB h1 (Nat.zero_le _), fun q hq => by have := b1 q hq; omega⟩
    · exact h0.all v hv'
  · rcases List.mem_cons.1 hu with rfl | hu
    · exact own_diff h3 h1 (by decide) q hq huq
    · have := hold u hu q huq; have := b3 q hq; omega
  · have := hold u hu q huq; have := b1 q hq; omega
/-- What Head answers. -/
def HdA (Xs : List Vc) (rows n : Nat) (w : World) (e : Ending) (w' : World) : Prop := ∃ (al ah an : Option Addr) (cl ch cn b : Nat), e = .returned (.tuple #[.agg #[.int .i64 (rows : Int), .slice al n cl, .slice ah n ch, .slice an n cn], .int .i64 0]) ∧ w.heap.size ≤ b ∧ OwnV w' b (.slice al n cl) (Xs.map lowX) ∧ OwnV w' b (.slice ah n ch) (Xs.map highX) ∧ w'.ownsRow b 3 1 (.slice an n cn) n ((Xs.map fun X => ((nulX X : Nat) : Int)).map (.int .i64)) ∧ apart (.slice al n cl) (.slice ah n ch) ∧ Below w.heap.size w w'
theorem HeadQ.own {w w' : World} {Xs : List Vc} {rows n : Nat} {e : Ending} (hn : Xs.length = n) (h : HeadQ w w' Xs rows e) : HdA Xs rows n w e w' := by
  obtain ⟨lv, hv, nv, b, rfl, h1, h2, h3, ⟨h4, h5⟩, h6⟩ := h
  obtain ⟨al, cl, rfl⟩ := own_slice (show w'.ownsRow b 42 3 lv _ _ from h1)
  obtain ⟨ah, ch, rfl⟩ := own_slice (show w'.ownsRow b 42 3 hv _ _ from h2)
  obtain ⟨an, cn, rfl⟩ := own_slice h3
  simp only [List.length_map, hn] at h1 h2 h3 h5 ⊢
  refine ⟨al, ah, an, cl, ch, cn, b, rfl, h4, h1, h2, ?_, h5, h6⟩
  rw [List.map_map]
  exact h3
set_option maxHeartbeats 40000000 in
theorem law_sm (w : World) (ks : List Int) (ak : Option Addr) (ck : Nat) (rs : List (List Val)) (ar : Option Addr) (cr : Nat) (cols : List Int) (ac : Option Addr) (cc : Nat)
    (hk : LisAt w ak (ks.map (.int .i64))) (hnk : ak = none → ck = 0) (hr : RowsZ w ar rs) (hc : LisAt w ac (cols.map (.int .i64))) (l1 : ks.length ≤ 1048576) (l2 : rs.length ≤ 1048576) (l3 : ∀ r ∈ rs, r.length ≤ 1048576) (l4 : cols.length ≤ 1048576)
    (hrg : ∀ r ∈ rs, ∀ x ∈ r, -9223372036854775808 ≤ x.n ∧ x.n ≤ 9223372036854775807) :
    Calls Tryz.prog 3 #[.slice ak ks.length ck, .slice ar rs.length cr, .slice ac cols.length cc] w fun r w' => r = .returned (.bool true) ∧ Below w.heap.size w w' := by
  have HK := hide (fun (W : World) (hW : Below w.heap.size w W) => hk.later hW)
  have HR := hide (fun (W : World) (hW : Below w.heap.size w W) => hr.later hW)
  have HC := hide (fun (W : World) (hW : Below w.heap.size w W) => hc.later hW)
  have HL : Hid (ks.length ≤ 1048576 ∧ rs.length ≤ 1048576 ∧ (∀ r ∈ rs, r.length ≤ 1048576) ∧ cols.length ≤ 1048576) := ⟨l1, l2, l3, l4⟩
  have HG := hide hrg
  obtain ⟨a1, c1, w1, hrun, ho1, hb1⟩ := copyI2 w ak ck ks hk hnk (by omega)
  replace hrun := hide hrun
  have HS := hide ((StF.nil w).ints hb1 (Nat.le_refl _) rfl ho1)
  have K4 := hide (copiedrows_any rs ar cr w1 l2 l3 (hr.later hb1))
  have K6 := hide (fun (l : List Int) (hl : l.length ≤ 1048576) (a b : Option Addr) (c d : Nat) (W : World) => samenums_same a b c d l W (by unfold maxLen; omega))
  have K7 := hide (fun (l : List (List Val)) (hl : l.length ≤ 1048576) (hr : ∀ r ∈ l, r.length ≤ 1048576) (a b : Option Addr) (c d : Nat) (W : World) => samerows_one a b c d l W (by unfold maxLen; omega) hr)
  have HN := hide hnk
  clear hk hnk hr hc l1 l2 l3 l4 hrg ho1 hb1
  go_enter Tryz.func3, Tryz.ntmps3
  go_upto_region 2 with (first
    | (at_builtin; refine wpList_app_run rfl (.tmp 29) (.tmp 30) 22 rfl _ _ rfl rfl (unhide hrun) ?_)
    | (go_at_call 4; refine (unhide K4).mono ?_; rintro _ w2 ⟨al, cl, ls, rfl, hw2, hb2⟩; replace HS := hide ((unhide HS).rows hb2 (Nat.le_refl _) hw2); clear hw2 hb2))
  clear hrun K4
  obtain ⟨Fl, hFl⟩ : ∃ F : Nat → Prop, (fun b => w1.heap.size ≤ b ∧ b < w2.heap.size) = F := ⟨_, rfl⟩
  rw [hFl] at HS
  clear hFl
  -- l 0, k 1
  have K5 := hide (fun (h1 : LisAt w2 a1 (ks.map (.int .i64))) (h2 : RowsAt w2 al rs) => (build_any w2 ks a1 c1 rs al cl (by have := (unhide HL).1; omega) (by have := (unhide HL).2.1; omega) (fun r hr => by have := (unhide HL).2.2.1 r hr; omega) (unhide HG) h1 h2).mono fun e w' h => h.one)
  have HI : Hid (LisAt w2 a1 (ks.map (.int .i64)) ∧ RowsAt w2 al rs) := ⟨own_lis (show w2.ownsRow _ _ _ (.slice a1 ks.length c1) _ _ from (unhide HS).get 1 rfl), by
    obtain ⟨ls, h⟩ : ∃ ls, RwO w2 Fl al cl rs ls := (unhide HS).get 0 rfl
    exact h.rows.at⟩
  unfold BuA at K5
  go_upto_region 3 with (go_at_call 5; refine (unhide K5 (unhide HI).1 (unhide HI).2).mono ?_; rintro _ w3 ⟨s, er, rfl, HB, hb3⟩; replace HS := hide ((unhide HS).below hb3); clear hb3)
  clear K5 HI
  go_upto_region 5 with (first
    | (go_at_call 6; refine (unhide K6 ks (unhide HL).1 a1 ak c1 ck _ (own_lis (show World.ownsRow _ _ _ _ (.slice a1 ks.length c1) _ _ from (unhide HS).get 1 rfl)) (unhide HK _ (unhide HS).bel)).mono ?_; rintro _ w4 ⟨rfl, hb4⟩; replace HS := hide ((unhide HS).below hb4); clear hb4)
    | (go_at_call 7; refine (unhide K7 rs (unhide HL).2.1 (unhide HL).2.2.1 al ar cl cr _ (show RowsAt _ _ _ from by
        obtain ⟨ls, h⟩ : ∃ ls, RwO _ Fl al cl rs ls := (unhide HS).get 0 rfl
        exact h.rows.at) (unhide HR _ (unhide HS).bel).at).mono ?_; rintro _ w5 ⟨rfl, hb5⟩; replace HS := hide ((unhide HS).below hb5); clear hb5))
  -- region 5, 6: k and l are spoilt
  have K := hide (spoiltI (x := 9) (show World.ownsRow w5 _ _ _ (.slice a1 ks.length c1) _ _ from (unhide HS).get 1 rfl) (by have := (unhide HL).1; omega))
  go_upto_region 6 with (go_at_call 8; refine (unhide K).mono ?_; rintro _ w6 ⟨rfl, hg6⟩; have hS6 := ((unhide HS).front 1 rfl).spoil (Ky.of_grown hg6 fun g hg => hg); simp only [List.eraseIdx] at hS6; replace HS := hide hS6; clear hS6 hg6)
  clear K
  have K : Hid (Calls Tryz.prog 9 #[.slice al rs.length cl] w6 fun e w' => e = .returned (.tuple #[]) ∧ Ky Fl w6 w') := by
    obtain ⟨ls, h⟩ : ∃ ls, RwO w6 Fl al cl rs ls := (unhide HS).get 0 rfl
    exact spoiltrows_all h (unhide HL).2.1 fun r hr => by have := (unhide HL).2.2.1 r hr; omega
  go_upto_region 7 with (go_at_call 9; refine (unhide K).mono ?_; rintro _ w7 ⟨rfl, hk7⟩; have hS7 := (unhide HS).spoil hk7; replace HS := hide hS7; clear hS7 hk7)
  clear K
  rcases unhide HB with ⟨hne, hs⟩ | ⟨rfl, hseg⟩
  · subst hs
    have he : (er != 0) = true := by rw [bne_iff_ne]; exact hne
    have hcell : (w7.alloc (.cells #[.int .i64 1] 3)).cell? ⟨w7.heap.size, 0, none⟩ = some (.int .i64 1) := by simp [go_sem]
    have K := hide (build_one (w7.alloc (.cells #[.int .i64 1] 3)) w7.heap.size hcell)
    have HB7 := hide (below_alloc (unhide HS).bel (.cells #[.int .i64 1] 3))
    clear hcell HB HS hne
    go_wp2_with (go_at_call 5; refine (unhide K).mono ?_; rintro _ w8 ⟨t, rfl, hb8⟩; have HB8 := hide (below_step (unhide HB7) hb8); clear hb8)
    go_ret
    exact ⟨rfl, unhide HB8⟩
  -- the text is a segment
  obtain ⟨l, ps, rfl, hS, hRr, hNn, hll, hkk⟩ := hseg
  have hXl : (colsX ks rs).length = ks.length := by simp [colsX]
  have hXr : ∀ X ∈ colsX ks rs, X.nl.length = rs.length := fun X hX => by
    obtain ⟨i, hi, e⟩ := List.mem_iff_getElem.1 hX
    have := (hS.lay.at_ i X (by rw [List.getElem?_eq_getElem hi, e])).2
    rw [this, hRr]
  have hr4 := hS.lay.rows
  rw [hRr] at hr4
  have hx0 : ∃ X0, (colsX ks rs)[0]? = some X0 := by
    have h1 := hS.lay.n1
    rw [hNn, ← hXl] at h1
    exact ⟨_, List.getElem?_eq_getElem h1⟩
  obtain ⟨X0, hX0⟩ := hx0
  have K10 : Hid (∀ W, Below w.heap.size w W → Calls Tryz.prog 10 #[.string (bs l), .slice ac cols.length cc] W (RdA (colsX ks rs) rs.length cols W)) := fun W hW => by
    have := sread_yes hll hS cols ac cc W (unhide HL).2.2.2 (unhide HC W hW)
    rw [hRr] at this
    exact this.mono fun e w' h => h.own
  have K11 : Hid (∀ W, Calls Tryz.prog 11 #[.string (bs l)] W (HdA (colsX ks rs) rs.length ks.length W)) := fun W => by
    have := head_yes hll hS W
    rw [hRr] at this
    exact this.mono fun e w' h => h.own hXl
  have K15 : Hid (∀ W, Calls Tryz.prog 15 #[.string (bs l)] W fun e w' => ∃ a c, e = .returned (.slice a ks.length c) ∧ w'.ownsRow W.heap.size 3 1 (.slice a ks.length c) ks.length (ks.map (.int .i64)) ∧ Below W.heap.size W w') := fun W => by
    refine (skinds_yes hll hS W).mono ?_
    rintro e w' ⟨a, c, rfl, _, ho, hb⟩
    rw [hXl] at ho
    have em : (colsX ks rs).map (fun X => Value.int .i64 X.k) = ks.map (.int .i64) := by
      conv => rhs; rw [← hkk]
      rw [List.map_map]
      rfl
    rw [em] at ho
    exact ⟨a, c, by rw [hXl], ho, hb⟩
  have K16 : Hid (∀ W, Calls Tryz.prog 16 #[.string (bs l), .int .i64 0] W fun e w' => ∃ p, e = .returned (.tuple #[.agg #[.int .i64 X0.k, .slice p.a1 X0.nl.length p.c1, .slice p.a2 X0.ns.length p.c2, .slice p.a3 X0.ss.length p.c3], .int .i64 0]) ∧ Own3 w' W.heap.size X0 p ∧ Below W.heap.size W w') := fun W => (scolumn_ok hll hS 0 hX0 W).mono fun e w' ⟨p, h1, h2, h3, h4⟩ => ⟨p, h1, h3, h4⟩
  have HX0 : Hid (Fit rs.length X0) := by
    have := hS.lay.fit (List.mem_of_getElem? hX0)
    rw [hRr] at this
    exact this
  have K17 : Hid (∀ (W : World) (p : Sl), Own3 W 0 X0 p → Calls Tryz.prog 17 #[.agg #[.int .i64 X0.k, .slice p.a1 X0.nl.length p.c1, .slice p.a2 X0.ns.length p.c2, .slice p.a3 X0.ss.length p.c3]] W fun e w' => ∃ q, e = .returned (.agg #[.int .i64 X0.k, .slice q.a1 X0.nl.length q.c1, .slice q.a2 X0.ns.length q.c2, .slice q.a3 X0.ss.length q.c3]) ∧ Own3 w' W.heap.size X0 q ∧ Below W.heap.size W w') := fun W p h => copiedvec_any W X0 p h.at ⟨own_nilR h.1, own_nilR h.2.1, own_nilR h.2.2⟩ (by have := (unhide HX0).len; have := (unhide HX0).le; omega) (by have := (unhide HX0).ns; have := (unhide HX0).le; omega) (by have := (unhide HX0).ss; have := (unhide HX0).le; omega)
  have K18 : Hid (∀ (W : World) (p : Sl), Own3 W 0 X0 p → Calls Tryz.prog 18 #[.agg #[.int .i64 X0.k, .slice p.a1 X0.nl.length p.c1, .slice p.a2 X0.ns.length p.c2, .slice p.a3 X0.ss.length p.c3]] W fun e w' => e = .returned (.tuple #[]) ∧ Ky (slB X0 p) W w') := fun W p h => spoiltvec_any h (by have := (unhide HX0).len; have := (unhide HX0).le; omega) (by have := (unhide HX0).ns; have := (unhide HX0).le; omega) (by have := (unhide HX0).ss; have := (unhide HX0).le; omega)
  have HVL := hide (readR_len (cs := cols) hr4 hXr (unhide HL).2.2.2)
  unfold RdA at K10
  unfold HdA at K11
  obtain ⟨V, hV⟩ : ∃ V, readR (colsX ks rs) rs.length cols = V := ⟨_, rfl⟩
  rw [hV] at K10 HVL
  obtain ⟨Lw, hLw⟩ : ∃ Lw, (colsX ks rs).map lowX = Lw := ⟨_, rfl⟩
  obtain ⟨Hg, hHg⟩ : ∃ Hg, (colsX ks rs).map highX = Hg := ⟨_, rfl⟩
  obtain ⟨Nu, hNu⟩ : ∃ Nu : List Int, (colsX ks rs).map (fun X => ((nulX X : Nat) : Int)) = Nu := ⟨_, rfl⟩
  have HLN : Hid (Lw.length = ks.length ∧ Hg.length = ks.length ∧ Nu.length = ks.length) := ⟨by rw [← hLw, List.length_map, hXl], by rw [← hHg, List.length_map, hXl], by rw [← hNu, List.length_map, hXl]⟩
  rw [hLw, hHg, hNu] at K11
  clear hS hRr hNn hll hkk hXl hXr hr4 hX0 hV hLw hHg hNu HB
  have K4 := hide (fun (a : Option Addr) (c : Nat) (W : World) (h : RowsZ W a V) => copiedrows_any V a c W (by have := (unhide HVL).1; omega) (unhide HVL).2 h)
  unfold CpRows at K4
  go_upto_region 11 with (go_at_call 10; refine (unhide K10 _ (unhide HS).bel).mono ?_; rintro _ w8 ⟨a8, c8, er8, b8, ls8, rfl, hw8, hr8, hb8⟩; obtain ⟨F8, hS8⟩ := (unhide HS).rowsE hb8 hw8 hr8; replace HS := hide hS8; clear hw8 hr8 hb8 hS8)
  go_upto_region 12 with (go_at_call 10; refine (unhide K10 _ (unhide HS).bel).mono ?_; rintro _ w9 ⟨a9, c9, er9, b9, ls9, rfl, hw9, hr9, hb9⟩; obtain ⟨F9, hS9⟩ := (unhide HS).rowsE hb9 hw9 hr9; replace HS := hide hS9; clear hw9 hr9 hb9 hS9)
  -- b 0, a 1
  have HI : Hid (RowsZ w9 a9 V) := by
    obtain ⟨ls, h⟩ : ∃ ls, RwO w9 F9 a9 c9 V ls := (unhide HS).get 0 rfl
    exact h.rows
  go_upto_region 13 with (go_at_call 4; refine (unhide K4 a9 c9 _ (unhide HI)).mono ?_; rintro _ w10 ⟨a10, c10, ls10, rfl, hr10, hb10⟩; obtain ⟨F10, hS10⟩ := (unhide HS).rowsE hb10 (Nat.le_refl _) hr10; replace HS := hide hS10; clear hr10 hb10 hS10)
  clear HI
  -- was 0, b 1, a 2
  have K : Hid (Calls Tryz.prog 9 #[.slice a8 V.length c8] w10 fun e w' => e = .returned (.tuple #[]) ∧ Ky F8 w10 w') := by
    obtain ⟨ls, h⟩ : ∃ ls, RwO w10 F8 a8 c8 V ls := (unhide HS).get 2 rfl
    exact spoiltrows_all h (by have := (unhide HVL).1; omega) fun r hr => by have := (unhide HVL).2 r hr; omega
  go_upto_region 14 with (go_at_call 9; refine (unhide K).mono ?_; rintro _ w11 ⟨rfl, hk11⟩; have hS11 := ((unhide HS).front 2 rfl).spoil hk11; simp only [List.eraseIdx] at hS11; replace HS := hide hS11; clear hS11 hk11)
  clear K
  -- was 0, b 1
  go_upto_region 15 with (go_at_call 11; refine (unhide K11 _).mono ?_; rintro _ w12 ⟨bl, bh, bn, dl, dh, dn, b12, rfl, hw12, h1, h2, h3, h4, hb12⟩; replace HS := hide ((unhide HS).head hb12 hw12 h1 h2 (unhide HLN).2.2.symm h3 h4); clear hw12 h1 h2 h3 h4 hb12)
  obtain ⟨W13, hW13⟩ : ∃ W13, w12.alloc (.cells #[.int .i64 (rs.length : Int), .slice bl ks.length dl, .slice bh ks.length dh, .slice bn ks.length dn] 36) = W13 := ⟨_, rfl⟩
  replace HS := hide ((unhide HS).box hW13)
  obtain ⟨b18, hb18⟩ : ∃ b18, w12.heap.size = b18 := ⟨_, rfl⟩
  rw [hb18] at HS
  rw [hb18, hW13]
  clear hW13 hb18
  -- box18 0, low 1, high 2, nulls 3, was 4, b 5
  -- region 15: low, nulls
  go_cut [20, 21] from 88 to 94 (fun s20 s21 wx => ∃ (aL : Option Addr) (cL : Nat) (aN : Option Addr) (cN : Nat), s20 = .slice aL ks.length cL ∧ s21 = .slice aN ks.length cN ∧ Hid (StF w wx [Vf.ints (.slice aN ks.length cN) Nu, Vf.vals (.slice aL ks.length cL) Lw, Vf.box b18 36 (.int .i64 (rs.length : Int)) (.slice bl ks.length dl) (.slice bh ks.length dh) (.slice bn ks.length dn), Vf.vals (.slice bl ks.length dl) Lw, Vf.vals (.slice bh ks.length dh) Hg, Vf.ints (.slice bn ks.length dn) Nu, Vf.rows F10 a10 c10 V, Vf.rows F9 a9 c9 V]))
  case first =>
    replace HS := hide (unhide HS).drew
    obtain ⟨W0, hW0⟩ : ∃ W0, W13.drew = W0 := ⟨_, rfl⟩
    rw [hW0] at HS
    have h1 : OwnV W0 0 (.slice bl ks.length dl) Lw := (unhide HS).get 1 rfl
    have h3 : W0.ownsRow 0 3 1 (.slice bn ks.length dn) Nu.length (Nu.map (.int .i64)) := (unhide HS).get 3 rfl
    have hr1 : RowAt W0 bl Lw := by obtain ⟨a, c, e, hr⟩ := ownV_row h1; injection e with e1; rw [e1]; exact hr
    have HCC : Hid (∀ W, Below W0.heap.size W0 W → (W.cell? ⟨b18, 1, none⟩ = some (.slice bl ks.length dl) ∧ W.cell? ⟨b18, 3, none⟩ = some (.slice bn ks.length dn))) := fun W hW => by
      obtain ⟨⟨x0, x1, x2, x3⟩, _⟩ := box4_facts (show W0.rowIs b18 36 4 _ from (unhide HS).get 0 rfl)
      exact ⟨cell_later hW x1, cell_later hW x3⟩
    have hA0 := below_alloc (Below.refl W0.heap.size W0) (.cells #[] 3)
    have HL0 := hide hr1
    have HL1 := hide (hr1.later hA0)
    have K12 : Hid (∀ W, RowAt W bl Lw → Calls Tryz.prog 12 #[.slice bl ks.length dl] W fun e w' => ∃ a c, e = .returned (.slice a ks.length c) ∧ OwnV w' W.heap.size (.slice a ks.length c) Lw ∧ Below W.heap.size W w') := fun W h => by
      have := copied_any (c := dl) h (own_nilR h1) (by rw [(unhide HLN).1]; have := (unhide HL).1; omega)
      rw [(unhide HLN).1] at this
      refine this.mono ?_
      rintro e w' ⟨v, rfl, ho, hb⟩
      obtain ⟨a, c, hv⟩ := own_slice (show w'.ownsRow _ 42 3 v _ _ from ho)
      rw [(unhide HLN).1] at hv
      subst hv
      exact ⟨a, c, rfl, ho, hb⟩
    have HRA : Hid (∀ (wA : World) (aL : Option Addr) (cL : Nat), OwnV wA W0.heap.size (.slice aL ks.length cL) Lw → Below W0.heap.size W0 wA → ∃ aN cN wF, (Builtin.append_ #[22, 22] 22 #[.slice (some ⟨wA.heap.size, 0, none⟩) 0 0, .slice bn ks.length dn]).run Tryz.prog (wA.alloc (.cells #[] 3)) = .ok (.slice aN ks.length cN) wF ∧ Hid (StF w wF [Vf.ints (.slice aN ks.length cN) Nu, Vf.vals (.slice aL ks.length cL) Lw, Vf.box b18 36 (.int .i64 (rs.length : Int)) (.slice bl ks.length dl) (.slice bh ks.length dh) (.slice bn ks.length dn), Vf.vals (.slice bl ks.length dl) Lw, Vf.vals (.slice bh ks.length dh) Hg, Vf.ints (.slice bn ks.length dn) Nu, Vf.rows F10 a10 c10 V, Vf.rows F9 a9 c9 V]) ∧ (wF.cell? ⟨b18, 1, none⟩ = some (.slice bl ks.length dl) ∧ wF.cell? ⟨b18, 3, none⟩ = some (.slice bn ks.length dn)) ∧ (wA.cell? ⟨b18, 1, none⟩ = some (.slice bl ks.length dl) ∧ wA.cell? ⟨b18, 3, none⟩ = some (.slice bn ks.length dn)) ∧ ((wA.alloc (.cells #[] 3)).cell? ⟨b18, 1, none⟩ = some (.slice bl ks.length dl) ∧ (wA.alloc (.cells #[] 3)).cell? ⟨b18, 3, none⟩ = some (.slice bn ks.length dn))) := fun wA aL cL hoA hbA => by
      obtain ⟨aN, cN, wF, hr, ho, hb⟩ := copyI2 wA bn dn Nu ((own_lis h3).later hbA) (own_nilR h3) (by rw [(unhide HLN).2.2]; have := (unhide HL).1; omega)
      rw [(unhide HLN).2.2] at hr ho
      have hbF := below_step hbA hb
      exact ⟨aN, cN, wF, hr, (unhide HS).pair hbF (Nat.le_refl _) (own_later hoA hb) (unhide HLN).2.2.symm (own_lessB ho hbA.size), unhide HCC _ hbF, unhide HCC _ hbA, unhide HCC _ (below_alloc hbA _)⟩
    have HRB : Hid (∀ (wA : World) (aL : Option Addr) (cL : Nat), OwnV wA (W0.alloc (.cells #[] 3)).heap.size (.slice aL ks.length cL) Lw → Below (W0.alloc (.cells #[] 3)).heap.size (W0.alloc (.cells #[] 3)) wA → ∃ aN cN wF, (Builtin.append_ #[22, 22] 22 #[.slice (some ⟨W0.heap.size, 0, none⟩) 0 0, .slice bn ks.length dn]).run Tryz.prog wA = .ok (.slice aN ks.length cN) wF ∧ Hid (StF w wF [Vf.ints (.slice aN ks.length cN) Nu, Vf.vals (.slice aL ks.length cL) Lw, Vf.box b18 36 (.int .i64 (rs.length : Int)) (.slice bl ks.length dl) (.slice bh ks.length dh) (.slice bn ks.length dn), Vf.vals (.slice bl ks.length dl) Lw, Vf.vals (.slice bh ks.length dh) Hg, Vf.ints (.slice bn ks.length dn) Nu, Vf.rows F10 a10 c10 V, Vf.rows F9 a9 c9 V]) ∧ (wF.cell? ⟨b18, 1, none⟩ = some (.slice bl ks.length dl) ∧ wF.cell? ⟨b18, 3, none⟩ = some (.slice bn ks.length dn)) ∧ (wA.cell? ⟨b18, 1, none⟩ = some (.slice bl ks.length dl) ∧ wA.cell? ⟨b18, 3, none⟩ = some (.slice bn ks.length dn)) ∧ (wA.cell? ⟨b18, 1, none⟩ = some (.slice bl ks.length dl) ∧ wA.cell? ⟨b18, 3, none⟩ = some (.slice bn ks.length dn))) := fun wA aL cL hoA hbA => by
      have hbW : Below W0.heap.size W0 wA := below_one hbA
      obtain ⟨aN, cN, wF, hr, ho, hg⟩ := copy_late2 W0 wA hbA Nu dn bn ((own_lis h3).later hbW) (own_nilR h3) (by rw [(unhide HLN).2.2]; have := (unhide HL).1; omega)
      rw [(unhide HLN).2.2] at hr ho
      have hbF : Below W0.heap.size W0 wF := hbW.trans (grown_below hg hbW.size (fun g e => by injection e with e; omega))
      have hv : OwnV wF (W0.alloc (.cells #[] 3)).heap.size (.slice aL ks.length cL) Lw := own_keep hoA fun g hgL => by
        have hlt := World.ownsRow.lt hoA g hgL
        refine hg.block g hlt.2 fun e => ?_
        injection e with e
        have e2 : (W0.alloc (.cells #[] 3)).heap.size = W0.heap.size + 1 := by simp
        omega
      exact ⟨aN, cN, wF, hr, (unhide HS).pair hbF (Nat.le_refl _) (own_lessB hv (by simp)) (unhide HLN).2.2.symm ho, unhide HCC _ hbF, unhide HCC _ hbW, unhide HCC _ hbW⟩
    have S0 := unhide HCC _ (Below.refl _ _)
    have S1 := unhide HCC _ hA0
    clear h1 h3 hr1 hA0 HS
    rw [← hW0] at S0 S1 HL0 HL1 HRA HRB
    clear hW0 HCC
    replace S1 : ((W13.alloc (.cells #[] 3)).drew.cell? ⟨b18, 1, none⟩ = some (.slice bl ks.length dl) ∧ (W13.alloc (.cells #[] 3)).drew.cell? ⟨b18, 3, none⟩ = some (.slice bn ks.length dn)) := S1
    replace HL1 : Hid (RowAt (W13.alloc (.cells #[] 3)).drew bl Lw) := HL1
    replace HRB : Hid (∀ (wA : World) (aL : Option Addr) (cL : Nat), OwnV wA (W13.alloc (.cells #[] 3)).drew.heap.size (.slice aL ks.length cL) Lw → Below (W13.alloc (.cells #[] 3)).drew.heap.size (W13.alloc (.cells #[] 3)).drew wA → ∃ aN cN wF, (Builtin.append_ #[22, 22] 22 #[.slice (some ⟨W13.heap.size, 0, none⟩) 0 0, .slice bn ks.length dn]).run Tryz.prog wA = .ok (.slice aN ks.length cN) wF ∧ Hid (StF w wF [Vf.ints (.slice aN ks.length cN) Nu, Vf.vals (.slice aL ks.length cL) Lw, Vf.box b18 36 (.int .i64 (rs.length : Int)) (.slice bl ks.length dl) (.slice bh ks.length dh) (.slice bn ks.length dn), Vf.vals (.slice bl ks.length dl) Lw, Vf.vals (.slice bh ks.length dh) Hg, Vf.ints (.slice bn ks.length dn) Nu, Vf.rows F10 a10 c10 V, Vf.rows F9 a9 c9 V]) ∧ (wF.cell? ⟨b18, 1, none⟩ = some (.slice bl ks.length dl) ∧ wF.cell? ⟨b18, 3, none⟩ = some (.slice bn ks.length dn)) ∧ (wA.cell? ⟨b18, 1, none⟩ = some (.slice bl ks.length dl) ∧ wA.cell? ⟨b18, 3, none⟩ = some (.slice bn ks.length dn)) ∧ (wA.cell? ⟨b18, 1, none⟩ = some (.slice bl ks.length dl) ∧ wA.cell? ⟨b18, 3, none⟩ = some (.slice bn ks.length dn))) := HRB
    go_region_held3 (fun w' => (w'.cell? ⟨b18, 1, none⟩ = some (.slice bl ks.length dl) ∧ w'.cell? ⟨b18, 3, none⟩ = some (.slice bn ks.length dn)))
      (first | assumption)
      (first
        | (go_at_call 12; refine (unhide K12 _ (by first | exact unhide HL0 | exact unhide HL1)).mono ?_; rintro _ wA ⟨aL, cL, rfl, hoA, hbA⟩
           first
             | (have hq := unhide HRA wA aL cL hoA hbA; clear hoA hbA; obtain ⟨aN, cN, wF, hrun, HF, SF, SA, SB⟩ := hq)
             | (have hq := unhide HRB wA aL cL hoA hbA; clear hoA hbA; obtain ⟨aN, cN, wF, hrun, HF, SF, SA, SB⟩ := hq))
        | (refine step_app_run (by rfl) (.tmp 91) (.tmp 93) 22 (by rfl) _ _ (by rfl) (by rfl) hrun ?_))
    all_goals (go_wp2_with fail; go_meet; exact ⟨aL, cL, aN, cN, rfl, rfl, HF⟩)
  case rest =>
  obtain ⟨aL, cL, aN, cN, rfl, rfl, HS15⟩ := hcut
  replace HS := HS15
  clear HS15
  -- nulls' 0, low' 1, box18 2, low 3, high 4, nulls 5, was 6, b 7
  -- region 16
  go_upto_region 16 with fail
  replace HS := hide (unhide HS).drew
  have S0 : wc.drew.cell? ⟨b18, 1, none⟩ = some (.slice bl ks.length dl) := World.rowIs.cell (show wc.drew.rowIs b18 36 4 _ from (unhide HS).get 2 rfl) (i := 1) (by decide)
  have HM := hide mark_any
  go_region_held3 (fun w' => w'.cell? ⟨b18, 1, none⟩ = some (.slice bl ks.length dl))
    (first | assumption)
    (first
      | (go_at_call 13; refine (unhide KSP).mono ?_; rintro _ wb16 ⟨rfl, hgb⟩; have hSb := ((unhide HSa).front 3 rfl).spoil (Ky.of_grown hgb fun g hg => hg); simp only [List.eraseIdx] at hSb; have HSb := hide hSb; have Sb : wb16.cell? ⟨b18, 1, none⟩ = some (.slice bl ks.length dl) := World.rowIs.cell (show wb16.rowIs b18 36 4 _ from (unhide HSb).get 2 rfl) (i := 1) (by decide); clear hgb hSb)
      | (go_at_call 14; refine (unhide HM _).mono ?_; rintro _ wa16 ⟨rfl, hba⟩; have HSa := hide ((unhide HS).below hba); have Sa : wa16.cell? ⟨b18, 1, none⟩ = some (.slice bl ks.length dl) := World.rowIs.cell (show wa16.rowIs b18 36 4 _ from (unhide HSa).get 2 rfl) (i := 1) (by decide); have KSP := hide (spoiltV (show wa16.ownsRow _ _ _ (.slice bl ks.length dl) _ _ from (unhide HSa).get 3 rfl) (by have := unhide HLN; have := (unhide HL).1; omega) ⟨2, 0, ⟨#[115, 112, 111, 105, 108, 116]⟩⟩); clear hba))
  replace HS := HSb
  clear HSa HSb S0 Sa Sb KSP HM
  -- nulls' 0, low' 1, box18 2, high 3, nulls 4, was 5, b 6
  -- region 17
  go_upto_region 17 with fail
  replace HS := hide (unhide HS).drew
  have S0 : wb16.drew.cell? ⟨b18, 2, none⟩ = some (.slice bh ks.length dh) := World.rowIs.cell (show wb16.drew.rowIs b18 36 4 _ from (unhide HS).get 2 rfl) (i := 2) (by decide)
  have HM := hide mark_any
  go_region_held3 (fun w' => w'.cell? ⟨b18, 2, none⟩ = some (.slice bh ks.length dh))
    (first | assumption)
    (first
      | (go_at_call 13; refine (unhide KSP).mono ?_; rintro _ wb17 ⟨rfl, hgb⟩; have hSb := ((unhide HSa).front 3 rfl).spoil (Ky.of_grown hgb fun g hg => hg); simp only [List.eraseIdx] at hSb; have HSb := hide hSb; have Sb : wb17.cell? ⟨b18, 2, none⟩ = some (.slice bh ks.length dh) := World.rowIs.cell (show wb17.rowIs b18 36 4 _ from (unhide HSb).get 2 rfl) (i := 2) (by decide); clear hgb hSb)
      | (go_at_call 14; refine (unhide HM _).mono ?_; rintro _ wa17 ⟨rfl, hba⟩; have HSa := hide ((unhide HS).below hba); have Sa : wa17.cell? ⟨b18, 2, none⟩ = some (.slice bh ks.length dh) := World.rowIs.cell (show wa17.rowIs b18 36 4 _ from (unhide HSa).get 2 rfl) (i := 2) (by decide); have KSP := hide (spoiltV (show wa17.ownsRow _ _ _ (.slice bh ks.length dh) _ _ from (unhide HSa).get 3 rfl) (by have := unhide HLN; have := (unhide HL).1; omega) ⟨2, 0, ⟨#[115, 112, 111, 105, 108, 116]⟩⟩); clear hba))
  replace HS := HSb
  clear HSa HSb S0 Sa Sb KSP HM
  -- nulls' 0, low' 1, box18 2, nulls 3, was 4, b 5
  -- region 18: nulls are spoilt
  have q3 : wb17.cell? ⟨b18, 3, none⟩ = some (.slice bn ks.length dn) := World.rowIs.cell (show wb17.rowIs b18 36 4 _ from (unhide HS).get 2 rfl) (i := 3) (by decide)
  have K := hide (spoiltI (x := 9999) (show wb17.ownsRow _ _ _ (.slice bn ks.length dn) _ _ from (unhide HS).get 3 rfl) (by have := unhide HLN; have := (unhide HL).1; omega))
  go_upto_region 19 with (go_at_call 8; refine (unhide K).mono ?_; rintro _ w18 ⟨rfl, hg18⟩; have hS18 := ((unhide HS).front 3 rfl).spoil (Ky.of_grown hg18 fun g hg => hg); simp only [List.eraseIdx] at hS18; replace HS := hide hS18; clear hS18 hg18)
  clear K q3
  -- nulls' 0, low' 1, box18 2, was 3, b 4
  -- region 19: the head again
  go_upto_region 20 with (go_at_call 11; refine (unhide K11 _).mono ?_; rintro _ w19 ⟨el, eh, en, fl, fh, fn, b19, rfl, hw19, h1, h2, h3, h4, hb19⟩; replace HS := hide ((unhide HS).head hb19 hw19 h1 h2 (unhide HLN).2.2.symm h3 h4); obtain ⟨⟨q0, q1, q2, q3⟩, f0, f1, f2, f3⟩ := box4_facts (show w19.rowIs b18 36 4 _ from (unhide HS).get 5 rfl); clear hw19 h1 h2 h3 h4 hb19)
  obtain ⟨W20, hW20⟩ : ∃ W20, (((w19.setCell ⟨b18, 0, none⟩ (.int .i64 (rs.length : Int))).setCell ⟨b18, 1, none⟩ (.slice el ks.length fl)).setCell ⟨b18, 2, none⟩ (.slice eh ks.length fh)).setCell ⟨b18, 3, none⟩ (.slice en ks.length fn) = W20 := ⟨_, rfl⟩
  have hSU := ((unhide HS).front 5 rfl).put (.int .i64 (rs.length : Int)) (.slice el ks.length fl) (.slice eh ks.length fh) (.slice en ks.length fn)
  simp only [List.eraseIdx] at hSU
  rw [hW20] at hSU
  rw [hW20]
  replace HS := hide hSU
  clear hSU hW20 q0 q1 q2 q3 f0 f1 f2 f3
  -- box18 0, low 1, high 2, nulls 3, nulls' 4, low' 5, was 6, b 7
  -- region 20: kinds are spoilt
  go_upto_region 21 with (first
    | (go_at_call 15; refine (unhide K15 _).mono ?_; rintro _ w21 ⟨ai, ci, rfl, ho21, hb21⟩; replace HS := hide ((unhide HS).ints hb21 (Nat.le_refl _) rfl ho21); have KI := hide (spoiltI ho21 (by have := (unhide HL).1; omega) 9); clear ho21 hb21)
    | (go_at_call 8; refine (unhide KI).mono ?_; rintro _ w22 ⟨rfl, hg22⟩; have hS22 := (unhide HS).spoil (Ky.of_grown hg22 fun g hg => hg); replace HS := hide hS22; clear hS22 hg22))
  clear KI
  -- region 21: c
  go_upto_region 22 with (go_at_call 16; refine (unhide K16 _).mono ?_; rintro _ w23 ⟨p, rfl, ho, hb⟩; replace HS := hide ((unhide HS).vec hb (Nat.le_refl _) ho); clear ho hb)
  obtain ⟨w23', hw23⟩ : ∃ W, w23.alloc (.cells #[.int .i64 X0.k, .slice p.a1 X0.nl.length p.c1, .slice p.a2 X0.ns.length p.c2, .slice p.a3 X0.ss.length p.c3] 49) = W := ⟨_, rfl⟩
  replace HS := hide ((unhide HS).box hw23)
  obtain ⟨b22, hb22⟩ : ∃ b, w23.heap.size = b := ⟨_, rfl⟩
  rw [hb22] at HS
  rw [hb22, hw23]
  clear hw23 hb22
  -- box22 0, c 1, box18 2, low 3, high 4, nulls 5, nulls' 6, low' 7, was 8, b 9
  -- region 22: first
  obtain ⟨⟨q0, q1, q2, q3⟩, f0, f1, f2, f3⟩ := box4_facts (show (w23').rowIs b22 49 4 (box4 (.int .i64 X0.k) (.slice p.a1 X0.nl.length p.c1) (.slice p.a2 X0.ns.length p.c2) (.slice p.a3 X0.ss.length p.c3)) from (unhide HS).get 0 rfl)
  have K := hide (unhide K17 w23' p ((unhide HS).get 1 rfl))
  go_upto_region 23 with (go_at_call 17; refine (unhide K).mono ?_; rintro _ w24 ⟨q, rfl, ho, hb⟩; replace HS := hide ((unhide HS).vec hb (Nat.le_refl _) ho); clear ho hb)
  clear K q0 q1 q2 q3 f0 f1 f2 f3
  obtain ⟨w24', hw24⟩ : ∃ W, w24.alloc (.cells #[.int .i64 X0.k, .slice q.a1 X0.nl.length q.c1, .slice q.a2 X0.ns.length q.c2, .slice q.a3 X0.ss.length q.c3] 49) = W := ⟨_, rfl⟩
  replace HS := hide ((unhide HS).box hw24)
  obtain ⟨b24, hb24⟩ : ∃ b, w24.heap.size = b := ⟨_, rfl⟩
  rw [hb24] at HS
  rw [hb24, hw24]
  clear hw24 hb24
  -- box24 0, q 1, box22 2, c 3, box18 4, low 5, high 6, nulls 7, nulls' 8, low' 9, was 10, b 11
  -- region 23: d
  go_upto_region 24 with (go_at_call 16; refine (unhide K16 _).mono ?_; rintro _ w25 ⟨d, rfl, ho, hb⟩; replace HS := hide ((unhide HS).vec hb (Nat.le_refl _) ho); clear ho hb)
  obtain ⟨w25', hw25⟩ : ∃ W, w25.alloc (.cells #[.int .i64 X0.k, .slice d.a1 X0.nl.length d.c1, .slice d.a2 X0.ns.length d.c2, .slice d.a3 X0.ss.length d.c3] 49) = W := ⟨_, rfl⟩
  replace HS := hide ((unhide HS).box hw25)
  obtain ⟨b25, hb25⟩ : ∃ b, w25.heap.size = b := ⟨_, rfl⟩
  rw [hb25] at HS
  rw [hb25, hw25]
  clear hw25 hb25
  -- box25 0, d 1, box24 2, q 3, box22 4, c 5, box18 6, low 7, high 8, nulls 9, nulls' 10, low' 11, was 12, b 13
  -- region 24: d is spoilt
  obtain ⟨⟨q0, q1, q2, q3⟩, f0, f1, f2, f3⟩ := box4_facts (show (w25').rowIs b25 49 4 (box4 (.int .i64 X0.k) (.slice d.a1 X0.nl.length d.c1) (.slice d.a2 X0.ns.length d.c2) (.slice d.a3 X0.ss.length d.c3)) from (unhide HS).get 0 rfl)
  have K := hide (unhide K18 w25' d ((unhide HS).get 1 rfl))
  go_upto_region 25 with (go_at_call 18; refine (unhide K).mono ?_; rintro _ w26 ⟨rfl, hk26⟩; have hS26 := ((unhide HS).front 1 rfl).spoil hk26; simp only [List.eraseIdx] at hS26; replace HS := hide hS26; clear hS26 hk26)
  clear K q0 q1 q2 q3 f0 f1 f2 f3
  -- box25 0, box24 1, q 2, box22 3, c 4, box18 5, low 6, high 7, nulls 8, nulls' 9, low' 10, was 11, b 12
  -- region 25: d again
  go_upto_region 26 with (go_at_call 16; refine (unhide K16 _).mono ?_; rintro _ w27 ⟨g, rfl, ho, hb⟩; replace HS := hide ((unhide HS).vec hb (Nat.le_refl _) ho); obtain ⟨⟨q0, q1, q2, q3⟩, f0, f1, f2, f3⟩ := box4_facts (show w27.rowIs b25 49 4 _ from (unhide HS).get 1 rfl); clear ho hb)
  obtain ⟨W28, hW28⟩ : ∃ W28, (((w27.setCell ⟨b25, 0, none⟩ (.int .i64 X0.k)).setCell ⟨b25, 1, none⟩ (.slice g.a1 X0.nl.length g.c1)).setCell ⟨b25, 2, none⟩ (.slice g.a2 X0.ns.length g.c2)).setCell ⟨b25, 3, none⟩ (.slice g.a3 X0.ss.length g.c3) = W28 := ⟨_, rfl⟩
  have hSU := ((unhide HS).front 1 rfl).put (.int .i64 X0.k) (.slice g.a1 X0.nl.length g.c1) (.slice g.a2 X0.ns.length g.c2) (.slice g.a3 X0.ss.length g.c3)
  simp only [List.eraseIdx] at hSU
  rw [hW28] at hSU
  rw [hW28]
  replace HS := hide hSU
  clear hSU hW28 q0 q1 q2 q3 f0 f1 f2 f3
  -- box25 0, d 1, box24 2, q 3, box22 4, c 5, box18 6, low 7, high 8, nulls 9, nulls' 10, low' 11, was 12, b 13
  -- region 26: again
  go_upto_region 27 with (go_at_call 10; refine (unhide K10 _ (unhide HS).bel).mono ?_; rintro _ w29 ⟨aA, cA, erA, bA, lsA, rfl, hwA, hrA, hbA⟩; obtain ⟨FA, hSA⟩ := (unhide HS).rowsE hbA hwA hrA; replace HS := hide hSA; clear hwA hrA hbA hSA)
  -- region 27: what is told
  -- again 0, box25 1, d 2, box24 3, q 4, box22 5, c 6, box18 7, low 8, high 9, nulls 10, nulls' 11, low' 12, was 13, b 14
  have HbR : Hid (∀ W, Below w29.heap.size w29 W → RowsAt W a9 V) := fun W hW => by
    obtain ⟨ls, h⟩ : ∃ ls, RwO w29 F9 a9 c9 V ls := (unhide HS).get 14 rfl
    exact h.rows.at.later hW
  have HwR : Hid (∀ W, Below w29.heap.size w29 W → RowsAt W a10 V) := fun W hW => by
    obtain ⟨ls, h⟩ : ∃ ls, RwO w29 F10 a10 c10 V ls := (unhide HS).get 13 rfl
    exact h.rows.at.later hW
  have HaR : Hid (∀ W, Below w29.heap.size w29 W → RowsAt W aA V) := fun W hW => by
    obtain ⟨ls, h⟩ : ∃ ls, RwO w29 FA aA cA V ls := (unhide HS).get 0 rfl
    exact h.rows.at.later hW
  have K19 : Hid (∀ W, Below w29.heap.size w29 W → Calls Tryz.prog 19 #[.slice el ks.length fl, .slice aL ks.length cL] W fun e w' => e = .returned (.bool true) ∧ Below W.heap.size W w') := fun W hW => by
    have h1 : OwnV w29 0 (.slice el ks.length fl) Lw := (unhide HS).get 8 rfl
    have h2 : OwnV w29 0 (.slice aL ks.length cL) Lw := (unhide HS).get 12 rfl
    have r1 : RowAt w29 el Lw := by obtain ⟨a, c, e, hr⟩ := ownV_row h1; injection e with e1; rw [e1]; exact hr
    have r2 : RowAt w29 aL Lw := by obtain ⟨a, c, e, hr⟩ := ownV_row h2; injection e with e1; rw [e1]; exact hr
    have := samerow_same el aL fl cL Lw W (by rw [(unhide HLN).1]; exact (unhide HL).1) (r1.later hW) (r2.later hW)
    rw [(unhide HLN).1] at this
    exact this
  have K6n : Hid (∀ W, Below w29.heap.size w29 W → Calls Tryz.prog 6 #[.slice en ks.length fn, .slice aN ks.length cN] W fun e w' => e = .returned (.bool true) ∧ Below W.heap.size W w') := fun W hW => by
    have h1 : w29.ownsRow 0 3 1 (.slice en ks.length fn) Nu.length (Nu.map (.int .i64)) := (unhide HS).get 10 rfl
    have h2 : w29.ownsRow 0 3 1 (.slice aN ks.length cN) Nu.length (Nu.map (.int .i64)) := (unhide HS).get 11 rfl
    have := unhide K6 Nu (by rw [(unhide HLN).2.2]; exact (unhide HL).1) en aN fn cN W ((own_lis h1).later hW) ((own_lis h2).later hW)
    rw [(unhide HLN).2.2] at this
    exact this
  have K20 : Hid (∀ (W : World) (x y : Sl), VecAt W X0 x → VecAt W X0 y → Calls Tryz.prog 20 #[.agg #[.int .i64 X0.k, .slice x.a1 X0.nl.length x.c1, .slice x.a2 X0.ns.length x.c2, .slice x.a3 X0.ss.length x.c3], .agg #[.int .i64 X0.k, .slice y.a1 X0.nl.length y.c1, .slice y.a2 X0.ns.length y.c2, .slice y.a3 X0.ss.length y.c3]] W fun e w' => e = .returned (.bool true) ∧ Below W.heap.size W w') := fun W x y h1 h2 => samevec_same X0 x y W ⟨by have := (unhide HX0).small.1; unfold maxLen; omega, by have := (unhide HX0).small.2.1; unfold maxLen; omega, by have := (unhide HX0).small.2.2; unfold maxLen; omega⟩ h1 h2
  have HcV : Hid (∀ W, Below w29.heap.size w29 W → VecAt W X0 p) := fun W hW => (show Own3 w29 0 X0 p from (unhide HS).get 6 rfl).at.later hW
  have HqV : Hid (∀ W, Below w29.heap.size w29 W → VecAt W X0 q) := fun W hW => (show Own3 w29 0 X0 q from (unhide HS).get 4 rfl).at.later hW
  have HdV : Hid (∀ W, Below w29.heap.size w29 W → VecAt W X0 g) := fun W hW => (show Own3 w29 0 X0 g from (unhide HS).get 2 rfl).at.later hW
  have HSS : Hid (∀ W, Below w29.heap.size w29 W → W.cell? ⟨b18, 1, none⟩ = some (.slice el ks.length fl) ∧ W.cell? ⟨b18, 3, none⟩ = some (.slice en ks.length fn) ∧ W.cell? ⟨b22, 0, none⟩ = some (.int .i64 X0.k) ∧ W.cell? ⟨b22, 1, none⟩ = some (.slice p.a1 X0.nl.length p.c1) ∧ W.cell? ⟨b22, 2, none⟩ = some (.slice p.a2 X0.ns.length p.c2) ∧ W.cell? ⟨b22, 3, none⟩ = some (.slice p.a3 X0.ss.length p.c3) ∧ W.cell? ⟨b24, 0, none⟩ = some (.int .i64 X0.k) ∧ W.cell? ⟨b24, 1, none⟩ = some (.slice q.a1 X0.nl.length q.c1) ∧ W.cell? ⟨b24, 2, none⟩ = some (.slice q.a2 X0.ns.length q.c2) ∧ W.cell? ⟨b24, 3, none⟩ = some (.slice q.a3 X0.ss.length q.c3) ∧ W.cell? ⟨b25, 0, none⟩ = some (.int .i64 X0.k) ∧ W.cell? ⟨b25, 1, none⟩ = some (.slice g.a1 X0.nl.length g.c1) ∧ W.cell? ⟨b25, 2, none⟩ = some (.slice g.a2 X0.ns.length g.c2) ∧ W.cell? ⟨b25, 3, none⟩ = some (.slice g.a3 X0.ss.length g.c3)) := fun W hW => by
    obtain ⟨⟨x0, x1, x2, x3⟩, _⟩ := box4_facts (show w29.rowIs b18 36 4 _ from (unhide HS).get 7 rfl)
    obtain ⟨⟨y0, y1, y2, y3⟩, _⟩ := box4_facts (show w29.rowIs b22 49 4 _ from (unhide HS).get 5 rfl)
    obtain ⟨⟨z0, z1, z2, z3⟩, _⟩ := box4_facts (show w29.rowIs b24 49 4 _ from (unhide HS).get 3 rfl)
    obtain ⟨⟨u0, u1, u2, u3⟩, _⟩ := box4_facts (show w29.rowIs b25 49 4 _ from (unhide HS).get 1 rfl)
    exact ⟨cell_later hW x1, cell_later hW x3, cell_later hW y0, cell_later hW y1, cell_later hW y2, cell_later hW y3, cell_later hW z0, cell_later hW z1, cell_later hW z2, cell_later hW z3, cell_later hW u0, cell_later hW u1, cell_later hW u2, cell_later hW u3⟩
  have HBEL : Hid (∀ W, Below w29.heap.size w29 W → Below w.heap.size w W) := fun W hW => below_step (unhide HS).bel hW
  have hE : ((X0.nl.length : Int) == (rs.length : Int)) = true := by rw [(unhide HX0).len]; exact beq_self_eq_true _
  clear HS
  have B0 : Hid (Below w29.heap.size w29 w29) := Below.refl _ _
  obtain ⟨k0, k1, k2, k3, k4, k5, k6, k7, k8, k9, k10, k11, k12, k13⟩ := unhide HSS _ (unhide B0)
  go_wp2_with (first
    | (go_at_call_of 7 a9; refine (unhide K7 V (by have := (unhide HVL).1; omega) (unhide HVL).2 a9 a10 c9 c10 _ (unhide HbR _ (unhide B0)) (unhide HwR _ (unhide B0))).mono ?_; rintro _ y1 ⟨rfl, hb1⟩; have B1 := hide (below_step (unhide B0) hb1); clear k0 k1 k2 k3 k4 k5 k6 k7 k8 k9 k10 k11 k12 k13 hb1; obtain ⟨k0, k1, k2, k3, k4, k5, k6, k7, k8, k9, k10, k11, k12, k13⟩ := unhide HSS _ (unhide B1))
    | (go_at_call_of 7 aA; refine (unhide K7 V (by have := (unhide HVL).1; omega) (unhide HVL).2 aA a10 cA c10 _ (unhide HaR _ (unhide B1)) (unhide HwR _ (unhide B1))).mono ?_; rintro _ y2 ⟨rfl, hb2⟩; have B2 := hide (below_step (unhide B1) hb2); clear k0 k1 k2 k3 k4 k5 k6 k7 k8 k9 k10 k11 k12 k13 hb2; obtain ⟨k0, k1, k2, k3, k4, k5, k6, k7, k8, k9, k10, k11, k12, k13⟩ := unhide HSS _ (unhide B2))
    | (go_at_call 19; refine (unhide K19 _ (unhide B2)).mono ?_; rintro _ y3 ⟨rfl, hb3⟩; have B3 := hide (below_step (unhide B2) hb3); clear k0 k1 k2 k3 k4 k5 k6 k7 k8 k9 k10 k11 k12 k13 hb3; obtain ⟨k0, k1, k2, k3, k4, k5, k6, k7, k8, k9, k10, k11, k12, k13⟩ := unhide HSS _ (unhide B3))
    | (go_at_call_of 6 en; refine (unhide K6n _ (unhide B3)).mono ?_; rintro _ y4 ⟨rfl, hb4⟩; have B4 := hide (below_step (unhide B3) hb4); clear k0 k1 k2 k3 k4 k5 k6 k7 k8 k9 k10 k11 k12 k13 hb4; obtain ⟨k0, k1, k2, k3, k4, k5, k6, k7, k8, k9, k10, k11, k12, k13⟩ := unhide HSS _ (unhide B4))
    | (go_at_call 15; refine (unhide K15 _).mono ?_; rintro _ y5 ⟨ai5, ci5, rfl, ho5, hb5⟩; have HI5 := hide (own_lis ho5); clear ho5; have B5 := hide (below_step (unhide B4) hb5); clear k0 k1 k2 k3 k4 k5 k6 k7 k8 k9 k10 k11 k12 k13 hb5; obtain ⟨k0, k1, k2, k3, k4, k5, k6, k7, k8, k9, k10, k11, k12, k13⟩ := unhide HSS _ (unhide B5))
    | (go_at_call_of 6 ai5; refine (unhide K6 ks (unhide HL).1 ai5 ak ci5 ck _ (unhide HI5) (unhide HK _ (unhide HBEL _ (unhide B5)))).mono ?_; rintro _ y6 ⟨rfl, hb6⟩; have B6 := hide (below_step (unhide B5) hb6); clear k0 k1 k2 k3 k4 k5 k6 k7 k8 k9 k10 k11 k12 k13 hb6; obtain ⟨k0, k1, k2, k3, k4, k5, k6, k7, k8, k9, k10, k11, k12, k13⟩ := unhide HSS _ (unhide B6))
    | (go_at_call_of 20 p; refine (unhide K20 _ p q (unhide HcV _ (unhide B6)) (unhide HqV _ (unhide B6))).mono ?_; rintro _ y7 ⟨rfl, hb7⟩; have B7 := hide (below_step (unhide B6) hb7); clear k0 k1 k2 k3 k4 k5 k6 k7 k8 k9 k10 k11 k12 k13 hb7; obtain ⟨k0, k1, k2, k3, k4, k5, k6, k7, k8, k9, k10, k11, k12, k13⟩ := unhide HSS _ (unhide B7))
    | (go_at_call_of 20 g; refine (unhide K20 _ g q (unhide HdV _ (unhide B7)) (unhide HqV _ (unhide B7))).mono ?_; rintro _ y8 ⟨rfl, hb8⟩; have B8 := hide (below_step (unhide B7) hb8); clear k0 k1 k2 k3 k4 k5 k6 k7 k8 k9 k10 k11 k12 k13 hb8; obtain ⟨k0, k1, k2, k3, k4, k5, k6, k7, k8, k9, k10, k11, k12, k13⟩ := unhide HSS _ (unhide B8)))
  go_ret
  exact ⟨rfl, unhide HBEL _ (unhide B8)⟩
end Go.Proofs.YtbdkpkpncmagoaaGreat

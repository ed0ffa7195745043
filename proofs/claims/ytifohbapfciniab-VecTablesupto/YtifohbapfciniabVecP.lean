import Derived.Test.YtifohbapfciniabVecO
set_option linter.unusedSimpArgs false
set_option linter.unusedVariables false
namespace Go.Proofs.Ytifohbapfciniab
open Go.RowKit Go.Sort

theorem cells3_new (w : World) (y : Val) : ∀ j u, (c3 y)[j]? = some u → (w.alloc (.cells #[.int .i64 y.k, .int .i64 y.n, .string y.s] 40)).cell? ((⟨w.heap.size, 0, none⟩ : Addr).add j) = some u := by
  intro j u hj
  match j, hj with
  | 0, hj => simp [c3] at hj; subst hj; simp [Addr.add, go_sem]
  | 1, hj => simp [c3] at hj; subst hj; simp [Addr.add, go_sem]
  | 2, hj => simp [c3] at hj; subst hj; simp [Addr.add, go_sem]
  | j + 3, hj => simp [c3] at hj
theorem c3_one (y : Val) : ∀ u ∈ c3 y, u.oneCell' = true := by
  intro u hu; simp [c3] at hu; rcases hu with rfl | rfl | rfl <;> rfl
theorem ownV_len {w : World} {base : Nat} {v : Value} {ys zs : List Val} (h : OwnV w base v zs) (e : zs = ys) : OwnV w base v ys := e ▸ h
/-- Behind an append to an own row: what lay below stays. -/
theorem own_below {w0 w w1 : World} {o : Obj} {v : Value} {base : Nat} {ys : List Val} (hb : Below w0.heap.size w0 w) (ho : OwnV w base v ys) (hbase : w0.heap.size ≤ base) (hg : (w.alloc o).grownBy w1 v.ownBlock) : Below w0.heap.size w0 w1 :=
  (below_alloc hb o).trans (grown_below hg (below_alloc hb o).size fun g e => Nat.le_trans hbase (ho.lt g e).1)

theorem own_base {w : World} {base base' e size : Nat} {v : Value} {m : Nat} {xs : List Value} (h : w.ownsRow base e size v m xs) (hb : base' ≤ base) : w.ownsRow base' e size v m xs := by
  refine ⟨h.1, ?_⟩
  rcases h.2 with h | ⟨g, cap, cur, hv, hg, rest⟩
  · exact .inl h
  · exact .inr ⟨g, cap, cur, hv, Nat.le_trans hb hg, rest⟩

set_option maxHeartbeats 4000000 in
theorem rvalues_any (X : Vc) (p : Sl) (w : World) (hs : small X) (hp : VecAt w X p) :
    Calls Try.prog 11 #[vecV X p] w fun e w' => ∃ v, e = .returned v ∧ OwnV w' w.heap.size v (valsV X) ∧ Below w.heap.size w w' := by
  obtain ⟨i4, hi4, z40, z41, z42⟩ := info_parts Try.info40
  have HG : Hid (∀ w', Below w.heap.size w w' → Calls Try.prog 10 #[vecV X p] w' fun e w'' => e = .returned (.bool (goodB X)) ∧ Below w'.heap.size w' w'') := fun w' hb => rgood_any X p w' hs (hp.later hb)
  have HP := hide hp
  obtain ⟨l1, l2, l3⟩ := hs
  clear hp
  rw [vecV_open]
  cases hg : goodB X
  · rw [hg] at HG
    have HV := hide (vals_none hg)
    generalize valsV X = ys at HV ⊢
    clear hg
    go_enter Try.func11, Try.ntmps11
    go_wp2_with fail
    refine wp_loop_rounds 1 ?_
    rw [rounds_succ]
    go_wp2_with (go_at_call 10; refine (unhide HG _ (below_alloc (Below.refl _ _) _)).mono ?_; rintro e w1 ⟨rfl, hb1⟩)
    go_ret
    exact ⟨_, rfl, by rw [unhide HV]; exact World.ownsRow_nil _ _ _ _, below_one hb1⟩
  · rw [hg] at HG
    have HKN := hide (good_kinds hg)
    have HVA : Hid (∀ i, i < X.nl.length → (valsV X)[i]? = some (atV X i)) := fun i hi => vals_at hg hi
    have HVL := hide (vals_len hg)
    clear hg
    obtain ⟨W1, hW1⟩ : ∃ W1, W1 = boxV w X p := ⟨_, rfl⟩
    have HW1 := hide hW1
    go_enter Try.func11, Try.ntmps11
    go_wp2_with fail
    go_loopw [3, 4] (fun v i wr => ∃ k : Nat, k ≤ X.nl.length ∧ i = .int .i64 k ∧ OwnV wr W1.heap.size v ((valsV X).take k) ∧ Below W1.heap.size W1 wr) (fun _ i _ => X.nl.length - (intOf i).toNat)
    case atStart => exact ⟨0, Nat.zero_le _, rfl, World.ownsRow_nil _ _ _ _, by rw [hW1]; exact Below.refl _ _⟩
    case round =>
      clear hW1
      obtain ⟨k, hk, rfl, ho, hb⟩ := hrel
      have hb' := hb
      rw [unhide HW1] at hb'
      obtain ⟨⟨r0, r1, r2, r3⟩, hbw, hzw⟩ := boxV_facts hb'
      have HO := hide ho
      have HB := hide hb
      have HBW := hide hbw
      have hlen : ((valsV X).take k).length = k := by rw [List.length_take, unhide HVL]; omega
      have HLEN := hide hlen
      clear ho hb hb' hbw hlen
      by_cases h1 : k < X.nl.length
      · have i1 : (k : Int) < (X.nl.length : Int) := by omega
        go_upto_region 3 with fail
        go_cut [13] (fun s13 wx => s13 = .bool true ∧ Below wr.heap.size wr wx)
        case first =>
          go_wp2_with (go_at_call 10; refine (unhide HG _ (unhide HBW)).mono ?_; rintro e w1 ⟨rfl, hb1⟩; have r1' := cell_later hb1 r1)
          go_meet
          exact ⟨rfl, hb1⟩
        case rest =>
          obtain ⟨rfl, hbx⟩ := hcut
          rename World => wx
          have HOx := hide ((unhide HO).later hbx)
          have HBx := hide (below_step (unhide HB) hbx)
          have HPx := hide ((unhide HP).later (below_step (unhide HBW) hbx))
          replace r0 := cell_later hbx r0
          replace r1 := cell_later hbx r1
          replace r2 := cell_later hbx r2
          replace r3 := cell_later hbx r3
          have hszx := (unhide HBx).size
          clear hbx HO HB HBW HG
          obtain ⟨b, hbb⟩ : ∃ b, X.nl[k]? = some b := ⟨_, List.getElem?_eq_getElem h1⟩
          obtain ⟨pb, po, ea, cp⟩ := (unhide HPx).1.get (k := k) (x := .bool b) (by simp [hbb])
          rw [ea] at r1
          have HY := hide (unhide HVA k h1)
          cases b
          · rcases unhide HKN with ⟨k1, e1⟩ | ⟨k1, k2, e1⟩
            · obtain ⟨m, hm⟩ : ∃ m, X.ns[k]? = some m := ⟨_, List.getElem?_eq_getElem (by omega)⟩
              obtain ⟨qb, qo, eb, cq⟩ := (unhide HPx).2.1.get (k := k) (x := .int .i64 m) (by simp [hm])
              rw [eb] at r2
              have i2 : (k : Int) < (X.ns.length : Int) := by omega
              have HV : Hid (atV X k = .num m) := by show _ = _; simp [atV, hbb, k1, hm]
              clear ea eb hbb hm e1
              go_wp2_with (first
                | (go_at_call 33; refine (rnum_any m _).mono ?_; rintro e w2 ⟨rfl, hb2⟩; rw [Val.open_]; have ho2 := (unhide HOx).later hb2; have hbb2 := below_step (unhide HBx) hb2; have hsz2 := hbb2.size)
                | (at_builtin; refine wpList_append_own_at _ rfl (.tmp 39) (.tmp 46) 22 rfl W1.heap.size 40 i4 (.agg #[.int .i64 0, .int .i64 0, .string ⟨#[]⟩]) 3 32 Try.underlying22 hi4 z40 z41 z42 rfl (by decide) _ _ _ rfl (World.ownsRow.alloc ho2 _) ⟨w2.heap.size, 0, none⟩ 1 1 (c3 (Val.num m)) rfl rfl (cells3_new w2 (Val.num m)) (c3_one _) (by rw [unhide HLEN]; unfold maxLen; omega) (by rw [unhide HLEN]; omega) (by simp; omega) ?_; intro v1 w3 hown1 hgrow1 _ hat1; have ho3 := ownV_app hown1; have hgr : (w2.alloc (.cells #[.int .i64 (Val.num m).k, .int .i64 (Val.num m).n, .string (Val.num m).s] 40)).grownBy w3 u3.ownBlock := hgrow1; clear hown1 hgrow1 hat1))
              go_roundw
              case rel => exact ⟨k + 1, by omega, by go_num, ownV_len ho3 (by rw [take_one (unhide HY), unhide HV]), own_below hbb2 ho2 (Nat.le_refl _) hgr⟩
              case measure => simp [intOf]; omega
            · obtain ⟨m, hm⟩ : ∃ m, X.ss[k]? = some m := ⟨_, List.getElem?_eq_getElem (by omega)⟩
              obtain ⟨qb, qo, eb, cq⟩ := (unhide HPx).2.2.get (k := k) (x := .string m) (by simp [hm])
              rw [eb] at r3
              have i2 : (k : Int) < (X.ss.length : Int) := by omega
              have HV : Hid (atV X k = .str m) := by show _ = _; simp [atV, hbb, k1, hm]
              clear ea eb hbb hm e1
              go_wp2_with (first
                | (go_at_call 34; refine (rstr_any m _).mono ?_; rintro e w2 ⟨rfl, hb2⟩; rw [Val.open_]; have ho2 := (unhide HOx).later hb2; have hbb2 := below_step (unhide HBx) hb2; have hsz2 := hbb2.size)
                | (at_builtin; refine wpList_append_own_at _ rfl (.tmp 16) (.tmp 23) 22 rfl W1.heap.size 40 i4 (.agg #[.int .i64 0, .int .i64 0, .string ⟨#[]⟩]) 3 32 Try.underlying22 hi4 z40 z41 z42 rfl (by decide) _ _ _ rfl (World.ownsRow.alloc ho2 _) ⟨w2.heap.size, 0, none⟩ 1 1 (c3 (Val.str m)) rfl rfl (cells3_new w2 (Val.str m)) (c3_one _) (by rw [unhide HLEN]; unfold maxLen; omega) (by rw [unhide HLEN]; omega) (by simp; omega) ?_; intro v1 w3 hown1 hgrow1 _ hat1; have ho3 := ownV_app hown1; have hgr : (w2.alloc (.cells #[.int .i64 (Val.str m).k, .int .i64 (Val.str m).n, .string (Val.str m).s] 40)).grownBy w3 u3.ownBlock := hgrow1; clear hown1 hgrow1 hat1))
              go_roundw
              case rel => exact ⟨k + 1, by omega, by go_num, ownV_len ho3 (by rw [take_one (unhide HY), unhide HV]), own_below hbb2 ho2 (Nat.le_refl _) hgr⟩
              case measure => simp [intOf]; omega
          · have HV : Hid (atV X k = .null) := by show _ = _; simp [atV, hbb]
            clear ea hbb
            go_wp2_with (first
              | (go_at_call 12; refine (none_any _).mono ?_; rintro e w2 ⟨rfl, hb2⟩; rw [Val.open_]; have ho2 := (unhide HOx).later hb2; have hbb2 := below_step (unhide HBx) hb2; have hsz2 := hbb2.size)
              | (at_builtin; refine wpList_append_own_at _ rfl (.tmp 31) (.tmp 33) 22 rfl W1.heap.size 40 i4 (.agg #[.int .i64 0, .int .i64 0, .string ⟨#[]⟩]) 3 32 Try.underlying22 hi4 z40 z41 z42 rfl (by decide) _ _ _ rfl (World.ownsRow.alloc ho2 _) ⟨w2.heap.size, 0, none⟩ 1 1 (c3 Val.null) rfl rfl (cells3_new w2 Val.null) (c3_one _) (by rw [unhide HLEN]; unfold maxLen; omega) (by rw [unhide HLEN]; omega) (by simp; omega) ?_; intro v1 w3 hown1 hgrow1 _ hat1; have ho3 := ownV_app hown1; have hgr : (w2.alloc (.cells #[.int .i64 Val.null.k, .int .i64 Val.null.n, .string Val.null.s] 40)).grownBy w3 u3.ownBlock := hgrow1; clear hown1 hgrow1 hat1))
            go_roundw
            case rel => exact ⟨k + 1, by omega, by go_num, ownV_len ho3 (by rw [take_one (unhide HY), unhide HV]), own_below hbb2 ho2 (Nat.le_refl _) hgr⟩
            case measure => simp [intOf]; omega
      · have i1 : ¬ (k : Int) < (X.nl.length : Int) := by omega
        have HE : Hid ((valsV X).take k = valsV X) := by
          show _ = _
          rw [List.take_of_length_le (by rw [unhide HVL]; omega)]
        go_wp2_with (go_at_call 10; refine (unhide HG _ (unhide HBW)).mono ?_; rintro e w1 ⟨rfl, hb1⟩; have r1' := cell_later hb1 r1)
        go_ret
        refine ⟨_, rfl, ?_, below_step (unhide HBW) hb1⟩
        have h := (unhide HO).later hb1
        rw [unhide HE] at h
        exact own_base h (by rw [unhide HW1]; simp [boxV])
end Go.Proofs.Ytifohbapfciniab

import Derived.Test.YthbfomcmjjnikaaGreatVecM
import Derived.Test.YthbfomcmjjnikaaGreatRdA
set_option linter.unusedSimpArgs false
set_option linter.unusedVariables false
namespace Go.Proofs.YthbfomcmjjnikaaGreat
open Go.RowKit Go.Sort

theorem cells3_new (w : World) (y : Val) : ∀ j u, (c3 y)[j]? = some u → (w.alloc (.cells #[.int .i64 y.k, .int .i64 y.n, .string y.s] 59)).cell? ((⟨w.heap.size, 0, none⟩ : Addr).add j) = some u := by
  intro j u hj
  match j, hj with
  | 0, hj => simp [c3] at hj; subst hj; simp [Addr.add, go_sem]
  | 1, hj => simp [c3] at hj; subst hj; simp [Addr.add, go_sem]
  | 2, hj => simp [c3] at hj; subst hj; simp [Addr.add, go_sem]
  | j + 3, hj => simp [c3] at hj
theorem c3_one (y : Val) : ∀ u ∈ c3 y, u.oneCell' = true := by
  intro u hu; simp [c3] at hu; rcases hu with rfl | rfl | rfl <;> rfl
theorem ownV_len {w : World} {base : Nat} {v : Value} {ys zs : List Val} (h : OwnV w base v zs) (e : zs = ys) : OwnV w base v ys := e ▸ h
/-- Behind an append to an own row: what lay below stays. -/
theorem own_below {w0 w w1 : World} {o : Obj} {v : Value} {base : Nat} {ys : List Val} (hb : Below w0.heap.size w0 w) (ho : OwnV w base v ys) (hbase : w0.heap.size ≤ base) (hg : (w.alloc o).grownBy w1 v.ownBlock) : Below w0.heap.size w0 w1 :=
  (below_alloc hb o).trans (grown_below hg (below_alloc hb o).size fun g e => Nat.le_trans hbase (ho.lt g e).1)

theorem own_base {w : World} {base base' e size : Nat} {v : Value} {m : Nat} {xs : List Value} (h : w.ownsRow base e size v m xs) (hb : base' ≤ base) : w.ownsRow base' e size v m xs := by
  refine ⟨h.1, ?_⟩
  rcases h.2 with h | ⟨g, cap, cur, hv, hg, rest⟩
  · exact .inl h
  · exact .inr ⟨g, cap, cur, hv, Nat.le_trans hb hg, rest⟩

set_option maxHeartbeats 4000000 in
theorem rvalues_any (X : Vc) (p : Sl) (w : World) (hs : small X) (hp : VecAt w X p) :
    Calls Tryz.prog 63 #[vecV X p] w fun e w' => ∃ v, e = .returned v ∧ OwnV w' w.heap.size v (valsV X) ∧ Below w.heap.size w w' := by
  obtain ⟨i4, hi4, z40, z41, z42⟩ := info_parts Tryz.info59
  have HG : Hid (∀ w', Below w.heap.size w w' → Calls Tryz.prog 68 #[vecV X p] w' fun e w'' => e = .returned (.bool (goodB X)) ∧ Below w'.heap.size w' w'') := fun w' hb => rgood_any X p w' hs (hp.later hb)
  have HP := hide hp
  obtain ⟨l1, l2, l3⟩ := hs
  clear hp
  rw [vecV_open]
  cases hg : goodB X
  · rw [hg] at HG
    have HV := hide (vals_none hg)
    generalize valsV X = ys at HV ⊢
    clear hg
    go_enter Tryz.func63, Tryz.ntmps63
    go_wp2_with fail
    refine wp_loop_rounds 1 ?_
    rw [rounds_succ]
    go_wp2_with (go_at_call 68; refine (unhide HG _ (below_alloc (Below.refl _ _) _)).mono ?_; rintro e w1 ⟨rfl, hb1⟩)
    go_ret
    exact ⟨_, rfl, by rw [unhide HV]; exact World.ownsRow_nil _ _ _ _, below_one hb1⟩
  · rw [hg] at HG
    have HKN := hide (good_kinds hg)
    have HVA : Hid (∀ i, i < X.nl.length → (valsV X)[i]? = some (atV X i)) := fun i hi => vals_at hg hi
    have HVL := hide (vals_len hg)
    clear hg
    obtain ⟨W1, hW1⟩ : ∃ W1, W1 = boxV w X p := ⟨_, rfl⟩
    have HW1 := hide hW1
    go_enter Tryz.func63, Tryz.ntmps63
    go_wp2_with fail
    go_loopw [3, 4] (fun v i wr => ∃ k : Nat, k ≤ X.nl.length ∧ i = .int .i64 k ∧ OwnV wr W1.heap.size v ((valsV X).take k) ∧ Below W1.heap.size W1 wr) (fun _ i _ => X.nl.length - (intOf i).toNat)
    case atStart => exact ⟨0, Nat.zero_le _, rfl, World.ownsRow_nil _ _ _ _, by rw [hW1]; exact Below.refl _ _⟩
    case round =>
      clear hW1
      obtain ⟨k, hk, rfl, ho, hb⟩ := hrel
      have hb' := hb
      rw [unhide HW1] at hb'
      obtain ⟨⟨r0, r1, r2, r3⟩, hbw, hzw⟩ := boxV_facts hb'
      have HO := hide ho
      have HB := hide hb
      have HBW := hide hbw
      have hlen : ((valsV X).take k).length = k := by rw [List.length_take, unhide HVL]; omega
      have HLEN := hide hlen
      clear ho hb hb' hbw hlen
      by_cases h1 : k < X.nl.length
      · have i1 : (k : Int) < (X.nl.length : Int) := by omega
        go_upto_region 3 with fail
        go_cut [13] (fun s13 wx => s13 = .bool true ∧ Below wr.heap.size wr wx)
        case first =>
          go_wp2_with (go_at_call 68; refine (unhide HG _ (unhide HBW)).mono ?_; rintro e w1 ⟨rfl, hb1⟩; have r1' := cell_later hb1 r1)
          go_meet
          exact ⟨rfl, hb1⟩
        case rest =>
          obtain ⟨rfl, hbx⟩ := hcut
          rename World => wx
          have HOx := hide ((unhide HO).later hbx)
          have HBx := hide (below_step (unhide HB) hbx)
          have HPx := hide ((unhide HP).later (below_step (unhide HBW) hbx))
          replace r0 := cell_later hbx r0
          replace r1 := cell_later hbx r1
          replace r2 := cell_later hbx r2
          replace r3 := cell_later hbx r3
          have hszx := (unhide HBx).size
          clear hbx HO HB HBW HG
          obtain ⟨b, hbb⟩ : ∃ b, X.nl[k]? = some b := ⟨_, List.getElem?_eq_getElem h1⟩
          obtain ⟨pb, po, ea, cp⟩ := (unhide HPx).1.get (k := k) (x := .bool b) (by simp [hbb])
          rw [ea] at r1
          have HY := hide (unhide HVA k h1)
          cases b
          · rcases unhide HKN with ⟨k1, e1⟩ | ⟨k1, k2, e1⟩
            · obtain ⟨m, hm⟩ : ∃ m, X.ns[k]? = some m := ⟨_, List.getElem?_eq_getElem (by omega)⟩
              obtain ⟨qb, qo, eb, cq⟩ := (unhide HPx).2.1.get (k := k) (x := .int .i64 m) (by simp [hm])
              rw [eb] at r2
              have i2 : (k : Int) < (X.ns.length : Int) := by omega
              have HV : Hid (atV X k = .num m) := by show _ = _; simp [atV, hbb, k1, hm]
              clear ea eb hbb hm e1
              go_wp2_with (first
                | (go_at_call 37; refine (rnum_any m _).mono ?_; rintro e w2 ⟨rfl, hb2⟩; rw [Val.open_]; have ho2 := (unhide HOx).later hb2; have hbb2 := below_step (unhide HBx) hb2; have hsz2 := hbb2.size)
                | (at_builtin; refine wpList_append_own_at _ rfl (.tmp 39) (.tmp 46) 37 rfl W1.heap.size 59 i4 (.agg #[.int .i64 0, .int .i64 0, .string ⟨#[]⟩]) 3 32 Tryz.underlying37 hi4 z40 z41 z42 rfl (by decide) _ _ _ rfl (World.ownsRow.alloc ho2 _) ⟨w2.heap.size, 0, none⟩ 1 1 (c3 (Val.num m)) rfl rfl (cells3_new w2 (Val.num m)) (c3_one _) (by rw [unhide HLEN]; unfold maxLen; omega) (by rw [unhide HLEN]; omega) (by simp; omega) ?_; intro v1 w3 hown1 hgrow1 _ hat1; have ho3 := ownV_app hown1; have hgr : (w2.alloc (.cells #[.int .i64 (Val.num m).k, .int .i64 (Val.num m).n, .string (Val.num m).s] 59)).grownBy w3 u3.ownBlock := hgrow1; clear hown1 hgrow1 hat1))
              go_roundw
              case rel => exact ⟨k + 1, by omega, by go_num, ownV_len ho3 (by rw [take_one (unhide HY), unhide HV]), own_below hbb2 ho2 (Nat.le_refl _) hgr⟩
              case measure => simp [intOf]; omega
            · obtain ⟨m, hm⟩ : ∃ m, X.ss[k]? = some m := ⟨_, List.getElem?_eq_getElem (by omega)⟩
              obtain ⟨qb, qo, eb, cq⟩ := (unhide HPx).2.2.get (k := k) (x := .string m) (by simp [hm])
              rw [eb] at r3
              have i2 : (k : Int) < (X.ss.length : Int) := by omega
              have HV : Hid (atV X k = .str m) := by show _ = _; simp [atV, hbb, k1, hm]
              clear ea eb hbb hm e1
              go_wp2_with (first
                | (go_at_call 60; refine (rstr_any m _).mono ?_; rintro e w2 ⟨rfl, hb2⟩; rw [Val.open_]; have ho2 := (unhide HOx).later hb2; have hbb2 := below_step (unhide HBx) hb2; have hsz2 := hbb2.size)
                | (at_builtin; refine wpList_append_own_at _ rfl (.tmp 16) (.tmp 23) 37 rfl W1.heap.size 59 i4 (.agg #[.int .i64 0, .int .i64 0, .string ⟨#[]⟩]) 3 32 Tryz.underlying37 hi4 z40 z41 z42 rfl (by decide) _ _ _ rfl (World.ownsRow.alloc ho2 _) ⟨w2.heap.size, 0, none⟩ 1 1 (c3 (Val.str m)) rfl rfl (cells3_new w2 (Val.str m)) (c3_one _) (by rw [unhide HLEN]; unfold maxLen; omega) (by rw [unhide HLEN]; omega) (by simp; omega) ?_; intro v1 w3 hown1 hgrow1 _ hat1; have ho3 := ownV_app hown1; have hgr : (w2.alloc (.cells #[.int .i64 (Val.str m).k, .int .i64 (Val.str m).n, .string (Val.str m).s] 59)).grownBy w3 u3.ownBlock := hgrow1; clear hown1 hgrow1 hat1))
              go_roundw
              case rel => exact ⟨k + 1, by omega, by go_num, ownV_len ho3 (by rw [take_one (unhide HY), unhide HV]), own_below hbb2 ho2 (Nat.le_refl _) hgr⟩
              case measure => simp [intOf]; omega
          · have HV : Hid (atV X k = .null) := by show _ = _; simp [atV, hbb]
            clear ea hbb
            go_wp2_with (first
              | (go_at_call 61; refine (none_any _).mono ?_; rintro e w2 ⟨rfl, hb2⟩; rw [Val.open_]; have ho2 := (unhide HOx).later hb2; have hbb2 := below_step (unhide HBx) hb2; have hsz2 := hbb2.size)
              | (at_builtin; refine wpList_append_own_at _ rfl (.tmp 31) (.tmp 33) 37 rfl W1.heap.size 59 i4 (.agg #[.int .i64 0, .int .i64 0, .string ⟨#[]⟩]) 3 32 Tryz.underlying37 hi4 z40 z41 z42 rfl (by decide) _ _ _ rfl (World.ownsRow.alloc ho2 _) ⟨w2.heap.size, 0, none⟩ 1 1 (c3 Val.null) rfl rfl (cells3_new w2 Val.null) (c3_one _) (by rw [unhide HLEN]; unfold maxLen; omega) (by rw [unhide HLEN]; omega) (by simp; omega) ?_; intro v1 w3 hown1 hgrow1 _ hat1; have ho3 := ownV_app hown1; have hgr : (w2.alloc (.cells #[.int .i64 Val.null.k, .int .i64 Val.null.n, .string Val.null.s] 59)).grownBy w3 u3.ownBlock := hgrow1; clear hown1 hgrow1 hat1))
            go_roundw
            case rel => exact ⟨k + 1, by omega, by go_num, ownV_len ho3 (by rw [take_one (unhide HY), unhide HV]), own_below hbb2 ho2 (Nat.le_refl _) hgr⟩
            case measure => simp [intOf]; omega
      · have i1 : ¬ (k : Int) < (X.nl.length : Int) := by omega
        have HE : Hid ((valsV X).take k = valsV X) := by
          show _ = _
          rw [List.take_of_length_le (by rw [unhide HVL]; omega)]
        go_wp2_with (go_at_call 68; refine (unhide HG _ (unhide HBW)).mono ?_; rintro e w1 ⟨rfl, hb1⟩; have r1' := cell_later hb1 r1)
        go_ret
        refine ⟨_, rfl, ?_, below_step (unhide HBW) hb1⟩
        have h := (unhide HO).later hb1
        rw [unhide HE] at h
        exact own_base h (by rw [unhide HW1]; simp [boxV])
end Go.Proofs.YthbfomcmjjnikaaGreat
set_option linter.unusedSimpArgs false
set_option linter.unusedVariables false
namespace Go.Proofs.YthbfomcmjjnikaaGreat
open Go.RowKit Go.Sort

/-- A number of 64 bits, with its sign. -/
def sint (n : Nat) : Int := wrap64 (n : Int)
def takeD (n : Nat) (l : List UInt8) : Option (List UInt8 × List UInt8) := if n ≤ l.length then some (l.take n, l.drop n) else none
def numD (n : Nat) (l : List UInt8) : Option (Nat × List UInt8) := if n ≤ l.length then some (beV (l.take n), l.drop n) else none
/-- A value of this kind, read. -/
def plainD (kind : Int) (l : List UInt8) : Option (Val × List UInt8) :=
  if kind == 1 then (numD 8 l).map fun p => (.num (sint p.1), p.2)
  else (numD 2 l).bind fun p => if p.1 ≤ 1000 then (takeD p.1 p.2).map fun q => (.str (bs q.1), q.2) else none
def plainsD (kind : Int) : Nat → List UInt8 → Option (List Val × List UInt8)
  | 0, l => some ([], l)
  | n + 1, l => (plainsD kind n l).bind fun p => (plainD kind p.2).map fun q => (p.1 ++ [q.1], q.2)
theorem numD_some {n m : Nat} {l r : List UInt8} (h : numD n l = some (m, r)) : n ≤ l.length ∧ m = beV (l.take n) ∧ r = l.drop n := by
  unfold numD at h
  split at h
  · injection h with h; injection h with h1 h2; exact ⟨by assumption, h1.symm, h2.symm⟩
  · cases h
theorem numD_none {n : Nat} {l : List UInt8} (h : numD n l = none) : l.length < n := by
  unfold numD at h
  split at h
  · cases h
  · omega
theorem takeD_some {n : Nat} {l t r : List UInt8} (h : takeD n l = some (t, r)) : n ≤ l.length ∧ t = l.take n ∧ r = l.drop n := by
  unfold takeD at h
  split at h
  · injection h with h; injection h with h1 h2; exact ⟨by assumption, h1.symm, h2.symm⟩
  · cases h
theorem takeD_none {n : Nat} {l : List UInt8} (h : takeD n l = none) : l.length < n := by
  unfold takeD at h
  split at h
  · cases h
  · omega
theorem numd_yes {b n m : Nat} {l r : List UInt8} {w : World} (h : Rd w b l) (hl : l.length ≤ 140737488355328) (hd : numD n l = some (m, r)) (h8 : n ≤ 8) :
    Calls Tryz.prog 148 #[.pointer (some ⟨b, 0, none⟩), .int .i64 n] w fun e w' => e = .returned (.int .u64 m) ∧ Rd w' b r ∧ Gr w w' b := by
  obtain ⟨h1, rfl, rfl⟩ := numD_some hd
  exact num_yes b n l w h hl h1 h8
theorem numd_no {b n : Nat} {l : List UInt8} {w : World} (h : Rd w b l) (hl : l.length ≤ 140737488355328) (hd : numD n l = none) :
    Calls Tryz.prog 148 #[.pointer (some ⟨b, 0, none⟩), .int .i64 n] w fun e w' => e = dmg ∧ w' = w := num_no b n l w h hl (numD_none hd)
theorem takeg_yes {b n : Nat} {l t r : List UInt8} {w : World} (h : Rd w b l) (hl : l.length ≤ 140737488355328) (hd : takeD n l = some (t, r)) :
    Calls Tryz.prog 160 #[.pointer (some ⟨b, 0, none⟩), .int .i64 n] w fun e w' => e = .returned (.string (bs t)) ∧ Rd w' b r ∧ Gr w w' b := by
  obtain ⟨h1, rfl, rfl⟩ := takeD_some hd
  exact (take_yes b n l w h hl h1).mono fun e w' ⟨he, hw⟩ => ⟨he, hw ▸ h.set _, hw ▸ Gr.set w b _⟩
theorem takeg_no {b n : Nat} {l : List UInt8} {w : World} (h : Rd w b l) (hl : l.length ≤ 140737488355328) (hd : takeD n l = none) :
    Calls Tryz.prog 160 #[.pointer (some ⟨b, 0, none⟩), .int .i64 n] w fun e w' => e = dmg ∧ w' = w := take_no b n l w h hl (takeD_none hd)
theorem numD_le {n m : Nat} {l r : List UInt8} (h : numD n l = some (m, r)) : r.length ≤ l.length := by
  obtain ⟨_, _, rfl⟩ := numD_some h; simp
theorem takeD_le {n : Nat} {l t r : List UInt8} (h : takeD n l = some (t, r)) : r.length ≤ l.length := by
  obtain ⟨_, _, rfl⟩ := takeD_some h; simp
theorem Rd.alloc {w : World} {b : Nat} {l : List UInt8} (h : Rd w b l) (o : Obj) : Rd (w.alloc o) b l := World.rowIs.alloc h o
theorem Rd.ne {w : World} {b : Nat} {l : List UInt8} (h : Rd w b l) : b < w.heap.size := World.rowIs.lt h

/-- A value's box in a world of a reader's: it stands as long as only the reader's block turns. -/
theorem box_gr {w w1 : World} {b : Nat} {l : List UInt8} {y : Val} (h : Rd w b l) (hg : Gr (w.alloc (.cells #[.int .i64 y.k, .int .i64 y.n, .string y.s] 59)) w1 b) : w1.rowIs w.heap.size 59 3 (box3 y) :=
  World.rowIs.of_block (box3_alloc w y) (hg.block w.heap.size (by simp) (fun e => by injection e with e; have := h.ne; omega))
/-- Stores into a new box. -/
theorem gr_box {w w1 : World} {b : Nat} {o : Obj} (hg : Gr (w.alloc o) w1 b) (j : Nat) (v : Value) : Gr (w.alloc o) w1 b := hg
theorem Gr.new3 {w w1 : World} {b : Nat} {o : Obj} (hg : Gr (w.alloc o) w1 b) (u v x : Value) : Gr w (((w1.setCell ⟨w.heap.size, 0, none⟩ u).setCell ⟨w.heap.size, 1, none⟩ v).setCell ⟨w.heap.size, 2, none⟩ x) b := by
  have hs : w.heap.size + 1 ≤ w1.heap.size := by have := hg.size; simpa using this
  refine ⟨hg.os, hg.tape, hg.output, ?_, fun i hi hne => ?_⟩
  · simp; omega
  · have h1 : i ≠ w.heap.size := by omega
    rw [Deep.blk_setCell_other _ _ _ _ h1, Deep.blk_setCell_other _ _ _ _ h1, Deep.blk_setCell_other _ _ _ _ h1, hg.block i (by simp; omega) hne, Below.heap_alloc _ _ _ hi]
theorem Rd.new3 {w1 : World} {b g : Nat} {l : List UInt8} (h : Rd w1 b l) (hne : b ≠ g) (u v x : Value) : Rd (((w1.setCell ⟨g, 0, none⟩ u).setCell ⟨g, 1, none⟩ v).setCell ⟨g, 2, none⟩ x) b l :=
  World.rowIs.setOther (World.rowIs.setOther (World.rowIs.setOther h hne _) hne _) hne _
set_option maxHeartbeats 1000000 in
set_option maxRecDepth 100000 in
theorem plain_int {b m : Nat} {l r : List UInt8} {w : World} (h : Rd w b l) (hl : l.length ≤ 140737488355328) (hd : numD 8 l = some (m, r)) :
    Calls Tryz.prog 178 #[.pointer (some ⟨b, 0, none⟩), .int .i64 1] w fun e w' => e = .returned (Val.num (sint m)).v ∧ Rd w' b r ∧ Gr w w' b := by
  have HN := hide (fun o => numd_yes (h.alloc o) hl hd (by decide))
  have HX := hide (fun w1 hg => box3_facts (box_gr (w1 := w1) (y := Val.null) h hg))
  have hne : b ≠ w.heap.size := by have := h.ne; omega
  have HNE := hide hne
  clear h hne
  go_enter Tryz.func178, Tryz.ntmps178
  go_wp2_with (go_at_call 148; refine (unhide HN _).mono ?_; rintro e w1 ⟨rfl, hr1, hg1⟩; obtain ⟨c0, c1, c2, f0, f1, f2⟩ := unhide HX w1 hg1)
  refine bodyPost_ret (v := (Val.num (sint m)).v) ?_ rfl ⟨rfl, ?_, ?_⟩
  · simp [results, Tryz.results178, go_sem, Val.v, Val.num, sint, c0, c1, c2]
  · exact hr1.new3 (unhide HNE) _ _ _
  · exact hg1.new3 _ _ _
set_option maxHeartbeats 1000000 in
set_option maxRecDepth 100000 in
theorem plain_intno {b : Nat} {l : List UInt8} {w : World} (h : Rd w b l) (hl : l.length ≤ 140737488355328) (hd : numD 8 l = none) :
    Calls Tryz.prog 178 #[.pointer (some ⟨b, 0, none⟩), .int .i64 1] w fun e w' => e = dmg ∧ Gr w w' b := by
  have HN := hide (fun o => numd_no (h.alloc o) hl hd)
  clear h
  go_enter Tryz.func178, Tryz.ntmps178
  go_wp2_with (go_at_call 148; refine (unhide HN _).mono ?_; rintro e w1 ⟨rfl, rfl⟩)
  exact ⟨rfl, rfl, Gr.alloc _ _ _⟩
set_option maxHeartbeats 1000000 in
set_option maxRecDepth 100000 in
theorem plain_text {b m : Nat} {l r t r2 : List UInt8} {w : World} (h : Rd w b l) (hl : l.length ≤ 140737488355328) (hd : numD 2 l = some (m, r)) (hm : m ≤ 1000) (ht : takeD m r = some (t, r2)) :
    Calls Tryz.prog 178 #[.pointer (some ⟨b, 0, none⟩), .int .i64 2] w fun e w' => e = .returned (Val.str (bs t)).v ∧ Rd w' b r2 ∧ Gr w w' b := by
  have HN := hide (fun o => numd_yes (h.alloc o) hl hd (by decide))
  have HX := hide (fun w1 hg => box3_facts (box_gr (w1 := w1) (y := Val.null) h hg))
  have hrl := numD_le hd
  have HT := hide (fun W (hW : Rd W b r) => takeg_yes hW (by omega) ht)
  have hne : b ≠ w.heap.size := by have := h.ne; omega
  have HNE := hide hne
  have hmi : (m : Int) ≤ 1000 := by omega
  clear h hne ht
  go_enter Tryz.func178, Tryz.ntmps178
  go_wp2_with (first
    | (go_at_call 148; refine (unhide HN _).mono ?_; rintro e w1 ⟨rfl, hr1, hg1⟩; replace hr1 := hide hr1)
    | (go_at_call 149; refine (ensure_yes _).mono ?_; rintro e w2 ⟨rfl, rfl⟩)
    | (go_at_call 160; refine (unhide HT _ (unhide hr1)).mono ?_; rintro e w3 ⟨rfl, hr3, hg3⟩; obtain ⟨c0, c1, c2, f0, f1, f2⟩ := unhide HX _ (hg1.trans hg3)))
  refine bodyPost_ret (v := (Val.str (bs t)).v) ?_ rfl ⟨rfl, ?_, ?_⟩
  · simp [results, Tryz.results178, go_sem, Val.v, Val.str, c0, c1, c2]
  · exact hr3.new3 (unhide HNE) _ _ _
  · exact (hg1.trans hg3).new3 _ _ _
set_option maxHeartbeats 1000000 in
set_option maxRecDepth 100000 in
theorem plain_textno1 {b : Nat} {l : List UInt8} {w : World} (h : Rd w b l) (hl : l.length ≤ 140737488355328) (hd : numD 2 l = none) :
    Calls Tryz.prog 178 #[.pointer (some ⟨b, 0, none⟩), .int .i64 2] w fun e w' => e = dmg ∧ Gr w w' b := by
  have HN := hide (fun o => numd_no (h.alloc o) hl hd)
  clear h
  go_enter Tryz.func178, Tryz.ntmps178
  go_wp2_with (go_at_call 148; refine (unhide HN _).mono ?_; rintro e w1 ⟨rfl, rfl⟩)
  exact ⟨rfl, rfl, Gr.alloc _ _ _⟩
set_option maxHeartbeats 1000000 in
set_option maxRecDepth 100000 in
theorem plain_textno2 {b m : Nat} {l r : List UInt8} {w : World} (h : Rd w b l) (hl : l.length ≤ 140737488355328) (hd : numD 2 l = some (m, r)) (hm : 1000 < m) :
    Calls Tryz.prog 178 #[.pointer (some ⟨b, 0, none⟩), .int .i64 2] w fun e w' => e = dmg ∧ Gr w w' b := by
  have HN := hide (fun o => numd_yes (h.alloc o) hl hd (by decide))
  have hmi : ¬ (m : Int) ≤ 1000 := by omega
  clear h
  go_enter Tryz.func178, Tryz.ntmps178
  go_wp2_with (first
    | (go_at_call 148; refine (unhide HN _).mono ?_; rintro e w1 ⟨rfl, hr1, hg1⟩; replace hr1 := hide hr1)
    | (go_at_call 149; refine (ensureF _ (decide_eq_false (by omega)) _).mono ?_; rintro e w2 ⟨rfl, rfl⟩))
  exact ⟨rfl, rfl, (Gr.alloc _ _ _).trans hg1⟩
set_option maxHeartbeats 1000000 in
set_option maxRecDepth 100000 in
theorem plain_textno3 {b m : Nat} {l r : List UInt8} {w : World} (h : Rd w b l) (hl : l.length ≤ 140737488355328) (hd : numD 2 l = some (m, r)) (hm : m ≤ 1000) (ht : takeD m r = none) :
    Calls Tryz.prog 178 #[.pointer (some ⟨b, 0, none⟩), .int .i64 2] w fun e w' => e = dmg ∧ Gr w w' b := by
  have HN := hide (fun o => numd_yes (h.alloc o) hl hd (by decide))
  have hrl := numD_le hd
  have HT := hide (fun W (hW : Rd W b r) => takeg_no hW (by omega) ht)
  have hmi : (m : Int) ≤ 1000 := by omega
  clear h ht
  go_enter Tryz.func178, Tryz.ntmps178
  go_wp2_with (first
    | (go_at_call 148; refine (unhide HN _).mono ?_; rintro e w1 ⟨rfl, hr1, hg1⟩; replace hr1 := hide hr1)
    | (go_at_call 149; refine (ensure_yes _).mono ?_; rintro e w2 ⟨rfl, rfl⟩)
    | (go_at_call 160; refine (unhide HT _ (unhide hr1)).mono ?_; rintro e w3 ⟨rfl, rfl⟩))
  exact ⟨rfl, rfl, (Gr.alloc _ _ _).trans hg1⟩
theorem plain_yes {b : Nat} {kind : Int} {l r : List UInt8} {x : Val} {w : World} (hk : kind = 1 ∨ kind = 2) (h : Rd w b l) (hl : l.length ≤ 140737488355328) (hd : plainD kind l = some (x, r)) :
    Calls Tryz.prog 178 #[.pointer (some ⟨b, 0, none⟩), .int .i64 kind] w fun e w' => e = .returned x.v ∧ Rd w' b r ∧ Gr w w' b := by
  rcases hk with rfl | rfl
  · unfold plainD at hd
    rw [if_pos (by decide)] at hd
    cases hn : numD 8 l with
    | none => rw [hn] at hd; cases hd
    | some p =>
      rw [hn] at hd
      injection hd with hd
      injection hd with h1 h2
      subst h1; subst h2
      exact plain_int h hl hn
  · unfold plainD at hd
    rw [if_neg (by decide)] at hd
    cases hn : numD 2 l with
    | none => rw [hn] at hd; cases hd
    | some p =>
      rw [hn, Option.bind_some] at hd
      by_cases hm : p.1 ≤ 1000
      · rw [if_pos hm] at hd
        cases ht : takeD p.1 p.2 with
        | none => rw [ht] at hd; cases hd
        | some q =>
          rw [ht] at hd
          injection hd with hd
          injection hd with h1 h2
          subst h1; subst h2
          exact plain_text h hl hn hm ht
      · rw [if_neg hm] at hd; cases hd
theorem plain_no {b : Nat} {kind : Int} {l : List UInt8} {w : World} (hk : kind = 1 ∨ kind = 2) (h : Rd w b l) (hl : l.length ≤ 140737488355328) (hd : plainD kind l = none) :
    Calls Tryz.prog 178 #[.pointer (some ⟨b, 0, none⟩), .int .i64 kind] w fun e w' => e = dmg ∧ Gr w w' b := by
  rcases hk with rfl | rfl
  · unfold plainD at hd
    rw [if_pos (by decide)] at hd
    cases hn : numD 8 l with
    | none => exact plain_intno h hl hn
    | some p => rw [hn] at hd; cases hd
  · unfold plainD at hd
    rw [if_neg (by decide)] at hd
    cases hn : numD 2 l with
    | none => exact plain_textno1 h hl hn
    | some p =>
      rw [hn, Option.bind_some] at hd
      by_cases hm : p.1 ≤ 1000
      · rw [if_pos hm] at hd
        cases ht : takeD p.1 p.2 with
        | none => exact plain_textno3 h hl hn hm ht
        | some q => rw [ht] at hd; cases hd
      · exact plain_textno2 h hl hn (by omega)
theorem plainD_le {kind : Int} {l r : List UInt8} {x : Val} (hd : plainD kind l = some (x, r)) : r.length ≤ l.length := by
  unfold plainD at hd
  split at hd
  · cases hn : numD 8 l with
    | none => rw [hn] at hd; cases hd
    | some p =>
      rw [hn] at hd
      injection hd with hd
      injection hd with h1 h2
      subst h2
      exact numD_le hn
  · cases hn : numD 2 l with
    | none => rw [hn] at hd; cases hd
    | some p =>
      rw [hn, Option.bind_some] at hd
      split at hd
      · cases ht : takeD p.1 p.2 with
        | none => rw [ht] at hd; cases hd
        | some q =>
          rw [ht] at hd
          injection hd with hd
          injection hd with h1 h2
          subst h2
          exact Nat.le_trans (takeD_le ht) (numD_le hn)
      · cases hd
end Go.Proofs.YthbfomcmjjnikaaGreat

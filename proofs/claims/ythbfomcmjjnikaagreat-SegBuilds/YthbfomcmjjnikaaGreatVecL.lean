import Derived.Test.YthbfomcmjjnikaaGreatRdA
import Derived.Test.YthbfomcmjjnikaaGreatVecD
set_option linter.unusedSimpArgs false
set_option linter.unusedVariables false
namespace Go.Proofs.YthbfomcmjjnikaaGreat
open Go.RowKit Go.Sort

set_option maxHeartbeats 2000000 in
theorem index_any (a : Option Addr) (c : Nat) (ss : List ByteArray) (w : World) (l : ss.length ≤ 1048576) (h : LisAt w a (ss.map .string)) :
    Calls Tryz.prog 111 #[.slice a ss.length c, .func (.func 53) #[] #[]] w fun e w' => (∃ i : Int, e = .returned (.int .i64 i) ∧ Hid (decide (0 ≤ i) = ss.any largeB)) ∧ w' = w := by
  have H := hide h
  clear h
  go_enter Tryz.func111, Tryz.ntmps111
  go_wp2_with fail
  go_loopw [8] (fun i wr => ∃ k : Nat, k ≤ ss.length ∧ i = .int .i64 k ∧ Hid (∀ i y, i < k → ss[i]? = some y → largeB y = false) ∧ wr = w) (fun i _ => ss.length - (intOf i).toNat)
  case atStart => exact ⟨0, Nat.zero_le _, rfl, fun i y h => by omega, rfl⟩
  case round =>
    obtain ⟨k, hk, rfl, HN, rfl⟩ := hrel
    by_cases h1 : k < ss.length
    · obtain ⟨s, hs⟩ : ∃ s, ss[k]? = some s := ⟨_, List.getElem?_eq_getElem h1⟩
      obtain ⟨pb, po, rfl, cp⟩ := (unhide H).get (k := k) (x := .string s) (by simp [hs])
      have HS := hide hs
      have i1 : (k : Int) < (ss.length : Int) := by omega
      clear hs
      rcases Bool.eq_false_or_eq_true (largeB s) with e1 | e1
      · have HE : Hid (decide (0 ≤ (k : Int)) = ss.any largeB) := by show _ = _; rw [hitG (unhide HS) e1]; simp
        go_wp2_with (go_at_call 53; refine (islarge_any _ _).mono ?_; rintro e w1 ⟨rfl, rfl⟩)
        go_ret
        exact ⟨⟨_, rfl, HE⟩, rfl⟩
      · have HP := hide (stepG (unhide HN) (unhide HS) e1)
        go_wp2_with (go_at_call 53; refine (islarge_any _ _).mono ?_; rintro e w1 ⟨rfl, rfl⟩)
        go_roundw
        case rel => exact ⟨k + 1, by omega, by go_num, HP, by first | rfl | trivial⟩
        case measure => simp [intOf]; omega
    · have i1 : ¬ (k : Int) < (ss.length : Int) := by omega
      have HE : Hid (decide (0 ≤ (-1 : Int)) = ss.any largeB) := by
        show _ = _
        have e : k = ss.length := by omega
        rw [noneG (by rw [← e]; exact unhide HN)]; rfl
      go_wp2
      go_ret
      exact ⟨⟨_, rfl, HE⟩, rfl⟩
theorem contains_any (a : Option Addr) (c : Nat) (ss : List ByteArray) (w : World) (l : ss.length ≤ 1048576) (h : LisAt w a (ss.map .string)) :
    Calls Tryz.prog 98 #[.slice a ss.length c, .func (.func 53) #[] #[]] w fun e w' => e = .returned (.bool (ss.any largeB)) ∧ w' = w := by
  have HI := hide (index_any a c ss w l h)
  generalize ss.any largeB = Z at HI ⊢
  clear h l
  go_enter Tryz.func98, Tryz.ntmps98
  go_wp2_with (go_at_call 111; refine (unhide HI).mono ?_; rintro e w1 ⟨⟨i, rfl, HE⟩, rfl⟩)
  go_ret
  exact ⟨by rw [← unhide HE]; rfl, rfl⟩

def small (X : Vc) : Prop := X.nl.length ≤ 1048576 ∧ X.ns.length ≤ 1048576 ∧ X.ss.length ≤ 1048576
def goodB (X : Vc) : Bool :=
  if X.k == 1 then X.ss.length == 0 && znN X.nl X.ns
  else if X.k == 2 then (X.ns.length == 0 && znS X.nl X.ss) && !X.ss.any largeB
  else false

set_option maxHeartbeats 2000000 in
theorem good_any (X : Vc) (p : Sl) (w : World) (hs : small X) (hp : VecAt w X p) :
    Calls Tryz.prog 72 #[vecV X p] w fun e w' => e = .returned (.bool (goodB X)) ∧ Below w.heap.size w w' := by
  rw [vecV_open]
  obtain ⟨l1, l2, l3⟩ := hs
  have HN : Hid (∀ w', Below w.heap.size w w' → Calls Tryz.prog 96 #[.slice p.a1 X.nl.length p.c1, .slice p.a2 X.ns.length p.c2] w' fun e w'' => e = .returned (.bool (znN X.nl X.ns)) ∧ w'' = w') :=
    fun w' hb => zeroN_any _ _ _ _ _ _ _ l1 l2 (hp.1.later hb) (hp.2.1.later hb)
  have HT : Hid (∀ w', Below w.heap.size w w' → Calls Tryz.prog 97 #[.slice p.a1 X.nl.length p.c1, .slice p.a3 X.ss.length p.c3] w' fun e w'' => e = .returned (.bool (znS X.nl X.ss)) ∧ w'' = w') :=
    fun w' hb => zeroS_any _ _ _ _ _ _ _ l1 l3 (hp.1.later hb) (hp.2.2.later hb)
  have HC : Hid (∀ w', Below w.heap.size w w' → Calls Tryz.prog 98 #[.slice p.a3 X.ss.length p.c3, .func (.func 53) #[] #[]] w' fun e w'' => e = .returned (.bool (X.ss.any largeB)) ∧ w'' = w') :=
    fun w' hb => contains_any _ _ _ _ l3 (hp.2.2.later hb)
  clear hp
  rcases Bool.eq_false_or_eq_true (X.k == 1) with k1 | k1
  · have HG : Hid (goodB X = (X.ss.length == 0 && znN X.nl X.ns)) := by show _ = _; simp [goodB, k1]
    generalize goodB X = G at HG ⊢
    by_cases z : X.ss.length = 0
    · have z' : ((X.ss.length : Int) == 0) = true := by simp [z]
      have HE : Hid (G = znN X.nl X.ns) := by show _ = _; rw [unhide HG, z]; simp
      clear z HG
      generalize znN X.nl X.ns = Z at HE HN
      go_enter Tryz.func72, Tryz.ntmps72
      go_wp2_with (go_at_call 96; refine (unhide HN _ (below_alloc (Below.refl _ _) _)).mono ?_; rintro e w1 ⟨rfl, rfl⟩)
      go_ret
      exact ⟨by rw [unhide HE]; rfl, below_alloc (Below.refl _ _) _⟩
    · have z' : ((X.ss.length : Int) == 0) = false := by simp; intro e; exact z (by rw [e]; rfl)
      have HE : Hid (G = false) := by show _ = _; rw [unhide HG]; simp; intro e; exact absurd (by rw [e]; rfl) z
      clear z HG
      go_enter Tryz.func72, Tryz.ntmps72
      go_wp2
      go_ret
      exact ⟨by rw [unhide HE]; rfl, below_alloc (Below.refl _ _) _⟩
  · rcases Bool.eq_false_or_eq_true (X.k == 2) with k2 | k2
    · have HG : Hid (goodB X = ((X.ns.length == 0 && znS X.nl X.ss) && !X.ss.any largeB)) := by show _ = _; simp [goodB, k1, k2]
      generalize goodB X = G at HG ⊢
      generalize znS X.nl X.ss = Z at HG HT
      generalize X.ss.any largeB = L at HG HC
      by_cases z : X.ns.length = 0
      · have z' : ((X.ns.length : Int) == 0) = true := by simp [z]
        have HE : Hid (G = (Z && !L)) := by show _ = _; rw [unhide HG, z]; simp
        clear z HG
        cases Z
        · go_enter Tryz.func72, Tryz.ntmps72
          go_wp2_with (go_at_call 97; refine (unhide HT _ (below_alloc (Below.refl _ _) _)).mono ?_; rintro e w1 ⟨rfl, rfl⟩)
          go_ret
          exact ⟨by rw [unhide HE]; rfl, below_alloc (Below.refl _ _) _⟩
        · go_enter Tryz.func72, Tryz.ntmps72
          go_wp2_with (first | (go_at_call 97; refine (unhide HT _ (below_alloc (Below.refl _ _) _)).mono ?_; rintro e w1 ⟨rfl, rfl⟩) | (go_at_call 98; refine (unhide HC _ (below_alloc (Below.refl _ _) _)).mono ?_; rintro e w1 ⟨rfl, rfl⟩))
          go_ret
          exact ⟨by rw [unhide HE]; rfl, below_alloc (Below.refl _ _) _⟩
      · have z' : ((X.ns.length : Int) == 0) = false := by simp; intro e; exact z (by rw [e]; rfl)
        have HE : Hid (G = false) := by show _ = _; rw [unhide HG]; simp; intro e; exact absurd (by rw [e]; rfl) z
        clear z HG
        go_enter Tryz.func72, Tryz.ntmps72
        go_wp2
        go_ret
        exact ⟨by rw [unhide HE]; rfl, below_alloc (Below.refl _ _) _⟩
    · have HE : Hid (goodB X = false) := by show _ = _; simp [goodB, k1, k2]
      generalize goodB X = G at HE ⊢
      go_enter Tryz.func72, Tryz.ntmps72
      go_wp2
      go_ret
      exact ⟨by rw [unhide HE]; rfl, below_alloc (Below.refl _ _) _⟩
end Go.Proofs.YthbfomcmjjnikaaGreat
set_option linter.unusedSimpArgs false
set_option linter.unusedVariables false
namespace Go.Proofs.YthbfomcmjjnikaaGreat
open Go.RowKit Go.Sort

def nlC (ys : List Val) (k : Nat) : List Value := (nlOf (ys.take k)).map .bool
def nC (ys : List Val) (k : Nat) : List Value := ((ys.take k).map (·.n)).map (.int .i64)
def sC (ys : List Val) (k : Nat) : List Value := ((ys.take k).map (·.s)).map .string
theorem take_one {ys : List Val} {k : Nat} {y : Val} (h : ys[k]? = some y) : ys.take (k + 1) = ys.take k ++ [y] := by
  rw [List.take_add_one, h]; rfl
theorem nlC_one {ys : List Val} {k : Nat} {y : Val} (h : ys[k]? = some y) : nlC ys (k + 1) = nlC ys k ++ [.bool (y.k == 0)] := by simp [nlC, nlOf, take_one h]
theorem nC_one {ys : List Val} {k : Nat} {y : Val} (h : ys[k]? = some y) : nC ys (k + 1) = nC ys k ++ [.int .i64 y.n] := by simp [nC, take_one h]
theorem sC_one {ys : List Val} {k : Nat} {y : Val} (h : ys[k]? = some y) : sC ys (k + 1) = sC ys k ++ [.string y.s] := by simp [sC, take_one h]
theorem nlC_len (ys : List Val) (k : Nat) : (nlC ys k).length ≤ ys.length := by simp [nlC, nlOf]; omega
theorem nC_len (ys : List Val) (k : Nat) : (nC ys k).length ≤ ys.length := by simp [nC]; omega
theorem sC_len (ys : List Val) (k : Nat) : (sC ys k).length ≤ ys.length := by simp [sC]; omega
theorem own_shape {w : World} {base e size : Nat} {v : Value} {m : Nat} {xs : List Value} (h : w.ownsRow base e size v m xs) : ∃ a c, v = .slice a m c := by
  rcases h.2 with ⟨rfl, rfl⟩ | ⟨g, cap, cur, rfl, _⟩
  · exact ⟨none, 0, rfl⟩
  · exact ⟨_, _, rfl⟩
theorem TI.boxg1 {w0 w w1 : World} {kind : Int} {s1 s2 s3 so : Value} {t : Nat} {c1 co : List Value} {o : Obj} (h : TI w0 w kind s1 s2 s3 so t c1 co) (hg : (w.alloc o).grownBy w1 s1.ownBlock) : w1.rowIs (w0.heap.size + 1) 49 4 (box4 (.int .i64 kind) s1 s2 s3) :=
  rowIs_grown (h.box.alloc o) hg (own_ne (h.box.alloc o) (h.own1.alloc o) (by decide))
theorem TI.boxg2 {w0 w w1 : World} {kind : Int} {s1 s2 s3 so : Value} {t : Nat} {c1 co : List Value} {o : Obj} (h : TI w0 w kind s1 s2 s3 so t c1 co) (ht : 49 ≠ t) (hg : (w.alloc o).grownBy w1 so.ownBlock) : w1.rowIs (w0.heap.size + 1) 49 4 (box4 (.int .i64 kind) s1 s2 s3) :=
  rowIs_grown (h.box.alloc o) hg (own_ne (h.box.alloc o) (h.own2.alloc o) ht)
theorem TI.start (w : World) (kind : Int) (t : Nat) :
    TI w ((w.alloc (.cells #[.int .i64 0, .slice none 0 0, .slice none 0 0, .slice none 0 0] 49)).alloc (.cells #[.int .i64 kind, .slice none 0 0, .slice none 0 0, .slice none 0 0] 49)) kind noS noS noS noS t [] [] := by
  refine ⟨by repeat (first | exact Below.refl _ _ | refine Below.alloc ?_ (by simp <;> omega) _), (World.rowIs_alloc w _ 49 _ (box4_arr _ _ _ _)).alloc _, ?_, World.ownsRow_nil _ _ _ _, World.ownsRow_nil _ _ _ _⟩
  have h := World.rowIs_alloc (w.alloc (.cells #[.int .i64 0, .slice none 0 0, .slice none 0 0, .slice none 0 0] 49)) _ 49 _ (box4_arr (.int .i64 kind) (.slice none 0 0) (.slice none 0 0) (.slice none 0 0))
  simpa [noS] using h

set_option maxHeartbeats 4000000 in
theorem rfrom_int (a : Option Addr) (c : Nat) (xs : List Val) (w : World) (hl : xs.length * 32 ≤ 140737488351232) (ha : RowAt w a xs) :
    Calls Tryz.prog 17 #[.int .i64 1, .slice a xs.length c] w fun e w' => ∃ p, e = .returned (.tuple #[vecV (fromV 1 xs).1 p, .int .i64 (fromV 1 xs).2]) ∧ VecAt w' (fromV 1 xs).1 p ∧ Fresh w.heap.size p ∧ Below w.heap.size w w' := by
  obtain ⟨i4, hi4, z40, z41, z42⟩ := info_parts Tryz.info4
  obtain ⟨i2, hi2, z20, z21, z22⟩ := info_parts Tryz.info2
  generalize hX : fromV 1 xs = X
  have HX := hide hX
  clear hX
  have HA := hide ha
  clear ha
  obtain ⟨ys, hys⟩ : ∃ ys, ys = xs.map cleanV := ⟨_, rfl⟩
  have HY := hide hys
  have hyl : ys.length = xs.length := by rw [hys]; simp
  have HYL := hide hyl
  clear hys hyl
  go_enter Tryz.func17, Tryz.ntmps17
  go_wp2_with fail
  go_loopw [21, 7] (fun i l wr => ∃ (k : Nat) (L : Bool) (s1 s2 : Value), k ≤ xs.length ∧ i = .int .i64 k ∧ l = .bool L ∧ Hid (∀ i y, i < k → ys[i]? = some y → badK 1 y = false) ∧ Hid (L = (ys.take k).any (fun y => largeB y.s)) ∧ TI w wr 1 s1 s2 noS s2 2 (nlC ys k) (nC ys k)) (fun i _ _ => xs.length - (intOf i).toNat)
  case atStart => exact ⟨0, false, noS, noS, Nat.zero_le _, rfl, rfl, fun i y h => by omega, rfl, TI.start _ _ _⟩
  case round =>
    obtain ⟨k, L, s1, s2, hkl, rfl, rfl, HN, HL, hI⟩ := hrel
    by_cases h1 : k < xs.length
    · obtain ⟨x, hx'⟩ : ∃ x, xs[k]? = some x := ⟨_, List.getElem?_eq_getElem h1⟩
      rcases (unhide HA).later hI.below with e | ⟨ba, oa, rfl, hca⟩
      · subst e; simp at h1
      obtain ⟨c0, c1, c2⟩ := hca k x hx'
      obtain ⟨y, hy⟩ : ∃ y, y = cleanV x := ⟨_, rfl⟩
      have HC : Hid (∀ w, Calls Tryz.prog 31 #[x.v] w fun e w' => e = .returned y.v ∧ Below w.heap.size w w') := by rw [hy]; exact rclean_any x
      have HS : Hid (ys[k]? = some y) := by show _ = _; rw [unhide HY, hy]; simp [hx']
      have i1 : (k : Int) < (xs.length : Int) := by omega
      have hsz : w.heap.size + 1 < wr.heap.size := hI.box.lt
      have HI := hide hI
      clear hca hx' hI hy
      go_upto_region 8 with fail
      go_cut [] (fun wx => TI w wx 1 s1 s2 noS s2 2 (nlC ys k) (nC ys k) ∧ wx.rowIs wr.heap.size 59 3 (box3 y))
      case first =>
        have hI1 := (unhide HI).later (below_alloc (Below.refl _ wr) (.cells #[.int .i64 x.k, .int .i64 x.n, .string x.s] 59))
        have hv1 := box3_alloc wr x
        go_wp2_with (go_at_call 31; refine (unhide HC _).mono ?_; rintro e w1 ⟨rfl, hb1⟩; rw [Val.open_]; have hv2 := rowIs_later hv1 hb1; obtain ⟨p0, p1, p2, q0, q1, q2⟩ := box3_facts hv2)
        go_meet
        exact ⟨(hI1.later hb1).set3 hv2 (by decide) (by omega) y, box3_set hv2⟩
      case rest =>
        obtain ⟨hIx, hvx⟩ := hcut
        rename World => wx
        have HIx := hide hIx
        have HVx := hide hvx
        obtain ⟨p0, p1, p2, q0, q1, q2⟩ := box3_facts hvx
        obtain ⟨r0, r1, r2, r3, f0, f1, f2, f3⟩ := box_facts hIx.res
        clear hIx hvx HC HI c0 c1 c2
        go_upto_region 9 with fail
        go_cut [35] (fun s35 wy => (∃ bb, s35 = .bool bb ∧ Hid (bb = badK 1 y)) ∧ wy = wx)
        case first =>
          rcases Bool.eq_false_or_eq_true (y.k != 0) with e1 | e1
          · go_wp2
            go_meet
            exact ⟨⟨_, rfl, by show _ = _; simp [badK, e1]⟩, rfl⟩
          · go_wp2
            go_meet
            exact ⟨⟨_, rfl, by show _ = _; simp [badK, e1]⟩, rfl⟩
        case rest =>
          obtain ⟨⟨bb, rfl, HBB⟩, rfl⟩ := hcut
          cases bb
          rotate_left
          · have eb := (unhide HBB).symm
            have HE : Hid (X = (Vc.zero, 4)) := by
              show _ = _
              rw [← unhide HX, fromV, if_neg (by simp [kindB]), ← unhide HY, if_pos (any_hit (unhide HS) eb)]
            clear eb
            go_wp2
            refine bodyPost_ret (v := .tuple #[zeroVec, .int .i64 4]) (by simp [results, Tryz.results17, go_sem, zeroVec, *]) rfl ?_
            exact refused (unhide HE) (below_set4 (unhide HIx).below (Nat.le_refl _) _ _ _ _)
          · have HP := hide (none_step (unhide HN) (unhide HS) (unhide HBB).symm)
            clear HN r0 r1 r2 r3 f0 f1 f2 f3
            go_upto_region 11 with fail
            go_cut [7] (fun s7 wy => s7 = .bool (L || largeB y.s) ∧ wy = wc)
            case first =>
              cases L
              · go_wp2
                go_meet
                exact ⟨rfl, rfl⟩
              · go_wp2
                go_meet
                exact ⟨rfl, rfl⟩
            case rest =>
              obtain ⟨rfl, rfl⟩ := hcut
              have HQ : Hid ((L || largeB y.s) = (ys.take (k + 1)).any (fun y => largeB y.s)) := by
                show _ = _
                rw [take_one (unhide HS), List.any_append, ← unhide HL]; simp
              generalize hL' : (L || largeB y.s) = L' at HQ ⊢
              clear hL' HL
              obtain ⟨b0, b1, b2, b3, g0, g1, g2, g3⟩ := box_facts (unhide HIx).box
              have HL1 := hide (nlC_len ys k)
              have HL2 := hide (nC_len ys k)
              go_upto_region 12 with fail
              have hbz : w.heap.size + 1 < wc.heap.size := (unhide HIx).box.lt
              have HYL2 : Hid (ys.length * 32 ≤ 140737488351232) := by show _ ≤ _; rw [unhide HYL]; exact hl
              go_cut [] (fun wy => ∃ s1', TI w wy 1 s1' s2 noS s2 2 (nlC ys (k + 1)) (nC ys k) ∧ wy.rowIs wr.heap.size 59 3 (box3 y))
              case first =>
                go_wp2_with (at_builtin; refine wpList_append_own_at _ rfl (.tmp 45) (.tmp 49) 45 rfl (w.heap.size + 1 + 1) 4 i4 (.bool false) 1 1 Tryz.underlying45 hi4 z40 z41 z42 rfl (by decide) _ _ _ rfl (World.ownsRow.alloc (unhide HIx).own1 _) ⟨wc.heap.size, 0, none⟩ 1 1 [.bool (y.k == 0)] rfl rfl (cell_one_new _ _ _) (by intro u hu; simp at hu; subst hu; rfl) (by have := unhide HL1; have := unhide HYL2; unfold maxLen; omega) (by have := unhide HL1; have := unhide HYL2; omega) (by simp; omega) ?_; intro v1 w1 hown1 hgrow1 _ hat1; obtain ⟨ad1, cp1, rfl⟩ := own_shape hown1; have hgr : (wc.alloc (.cells #[.bool (y.k == 0)] 4)).grownBy w1 s1.ownBlock := hgrow1; clear hgrow1 hat1; obtain ⟨bb0, bb1, bb2, bb3, gg0, gg1, gg2, gg3⟩ := box_facts ((unhide HIx).boxg1 hgr))
                go_meet
                obtain ⟨h1', h2', _⟩ := (unhide HIx).app1 (unhide HVx) (by decide) (by decide) hown1 hgr
                exact ⟨_, by rw [nlC_one (unhide HS)]; exact h1', h2'⟩
              case rest =>
                obtain ⟨s1', hIy, hvy⟩ := hcut
                rename World => wy
                clear b0 b1 b2 b3 g0 g1 g2 g3 p0 p1 p2 q0 q1 q2 HIx HVx hbz
                have HIy := hide hIy
                obtain ⟨p0, p1, p2, q0, q1, q2⟩ := box3_facts hvy
                obtain ⟨b0, b1, b2, b3, g0, g1, g2, g3⟩ := box_facts hIy.box
                have hbz : w.heap.size + 1 < wy.heap.size := hIy.box.lt
                clear hIy hvy
                go_wp2_with (at_builtin; refine wpList_append_own_at _ rfl (.tmp 55) (.tmp 58) 46 rfl (w.heap.size + 1 + 1) 2 i2 (.int .i64 0) 1 8 Tryz.underlying46 hi2 z20 z21 z22 rfl (by decide) _ _ _ rfl (World.ownsRow.alloc (unhide HIy).own2 _) ⟨wy.heap.size, 0, none⟩ 1 1 [.int .i64 y.n] rfl rfl (cell_one_new _ _ _) (by intro u hu; simp at hu; subst hu; rfl) (by have := unhide HL2; have := unhide HYL2; unfold maxLen; omega) (by have := unhide HL2; have := unhide HYL2; omega) (by simp; omega) ?_; intro v1 w1 hown1 hgrow1 _ hat1; obtain ⟨ad1, cp1, rfl⟩ := own_shape hown1; have hgr : (wy.alloc (.cells #[.int .i64 y.n] 2)).grownBy w1 s2.ownBlock := hgrow1; clear hgrow1 hat1; obtain ⟨bb0, bb1, bb2, bb3, gg0, gg1, gg2, gg3⟩ := box_facts ((unhide HIy).boxg2 (by decide) hgr))
                go_roundw
                case rel => exact ⟨k + 1, L', s1', _, by omega, by go_num, rfl, HP, HQ, by rw [nC_one (unhide HS)]; exact (unhide HIy).app2 hown1 hgr⟩
                case measure => simp [intOf]; omega
    · have e : k = xs.length := by omega
      have i1 : ¬ (k : Int) < (xs.length : Int) := by omega
      have HB : Hid (ys.any (badK 1) = false) := any_none (by rw [unhide HYL, ← e]; exact unhide HN)
      have HLL : Hid (L = ys.any (fun y => largeB y.s)) := by
        have := unhide HL
        rw [e, ← unhide HYL, List.take_length] at this
        exact this
      have HF : Hid (nlC ys k = (nlOf ys).map .bool ∧ nC ys k = (ys.map (·.n)).map (.int .i64)) := by
        unfold nlC nC
        rw [e, ← unhide HYL, List.take_length]
        exact ⟨rfl, rfl⟩
      obtain ⟨a1, c1, rfl, hl1, hf1⟩ := lis_of_own hI.own1
      obtain ⟨a2, c2, rfl, hl2, hf2⟩ := lis_of_own hI.own2
      rw [(unhide HF).1] at hl1
      rw [(unhide HF).2] at hl2
      have e1 : ((nlOf ys).map Value.bool).length = xs.length := by rw [← unhide HYL]; simp [nlOf]
      have e2 : ((ys.map (·.n)).map (Value.int .i64)).length = xs.length := by rw [← unhide HYL]; simp
      rw [(unhide HF).1, (unhide HF).2, e1, e2] at hI
      have HI := hide hI
      have HL1 := hide hl1
      have HL2 := hide hl2
      have HF1 := hide hf1
      have HF2 := hide hf2
      obtain ⟨r0, r1, r2, r3, f0, f1, f2, f3⟩ := box_facts hI.res
      obtain ⟨b0, b1, b2, b3, g0, g1, g2, g3⟩ := box_facts hI.box
      have b3' : wr.cell? ⟨w.heap.size + 1, 3, none⟩ = some (.slice none 0 0) := b3
      clear hI e hl1 hl2 hf1 hf2 b3 e1 e2
      cases L
      · have HE : Hid (X = (laidV 1 ys, 0)) := by
          show _ = _
          rw [← unhide HX, fromV, if_neg (by simp [kindB]), ← unhide HY, if_neg (by rw [unhide HB]; simp), if_neg (by rw [← unhide HLL]; simp)]
        go_wp2
        refine bodyPost_ret (v := .tuple #[.agg #[.int .i64 1, .slice a1 xs.length c1, .slice a2 xs.length c2, .slice none 0 0], .int .i64 0]) (by simp [results, Tryz.results17, go_sem, *]) rfl ?_
        rw [unhide HE]
        refine ⟨⟨a1, c1, a2, c2, none, 0⟩, ?_, ?_, ?_, below_set4 (unhide HI).below (Nat.le_refl _) _ _ _ _⟩
        · rw [vecV_open]; simp [laidV, nlOf, unhide HYL]
        · exact VecAt.setO4 (X := laidV 1 ys) (p := ⟨a1, c1, a2, c2, none, 0⟩) (base := w.heap.size + 1 + 1) ⟨unhide HL1, unhide HL2, .inl rfl⟩ ⟨unhide HF1, unhide HF2, by simp⟩ (by omega) _ _ _ _
        · exact Fresh.less (c := w.heap.size + 1 + 1) ⟨unhide HF1, unhide HF2, by simp⟩ (by omega)
      · have HE : Hid (X = (Vc.zero, 3)) := by
          show _ = _
          rw [← unhide HX, fromV, if_neg (by simp [kindB]), ← unhide HY, if_neg (by rw [unhide HB]; simp), if_pos (unhide HLL).symm]
        go_wp2
        refine bodyPost_ret (v := .tuple #[zeroVec, .int .i64 3]) (by simp [results, Tryz.results17, go_sem, zeroVec, *]) rfl ?_
        exact refused (unhide HE) (below_set4 (unhide HI).below (Nat.le_refl _) _ _ _ _)
end Go.Proofs.YthbfomcmjjnikaaGreat
set_option linter.unusedSimpArgs false
set_option linter.unusedVariables false
namespace Go.Proofs.YthbfomcmjjnikaaGreat
open Go.RowKit Go.Sort

set_option maxHeartbeats 4000000 in
theorem rfrom_text (a : Option Addr) (c : Nat) (xs : List Val) (w : World) (hl : xs.length * 32 ≤ 140737488351232) (ha : RowAt w a xs) :
    Calls Tryz.prog 17 #[.int .i64 2, .slice a xs.length c] w fun e w' => ∃ p, e = .returned (.tuple #[vecV (fromV 2 xs).1 p, .int .i64 (fromV 2 xs).2]) ∧ VecAt w' (fromV 2 xs).1 p ∧ Fresh w.heap.size p ∧ Below w.heap.size w w' := by
  obtain ⟨i4, hi4, z40, z41, z42⟩ := info_parts Tryz.info4
  obtain ⟨i2, hi2, z20, z21, z22⟩ := info_parts Tryz.info9
  generalize hX : fromV 2 xs = X
  have HX := hide hX
  clear hX
  have HA := hide ha
  clear ha
  obtain ⟨ys, hys⟩ : ∃ ys, ys = xs.map cleanV := ⟨_, rfl⟩
  have HY := hide hys
  have hyl : ys.length = xs.length := by rw [hys]; simp
  have HYL := hide hyl
  clear hys hyl
  go_enter Tryz.func17, Tryz.ntmps17
  go_wp2_with fail
  go_loopw [21, 7] (fun i l wr => ∃ (k : Nat) (L : Bool) (s1 s2 : Value), k ≤ xs.length ∧ i = .int .i64 k ∧ l = .bool L ∧ Hid (∀ i y, i < k → ys[i]? = some y → badK 2 y = false) ∧ Hid (L = (ys.take k).any (fun y => largeB y.s)) ∧ TI w wr 2 s1 noS s2 s2 9 (nlC ys k) (sC ys k)) (fun i _ _ => xs.length - (intOf i).toNat)
  case atStart => exact ⟨0, false, noS, noS, Nat.zero_le _, rfl, rfl, fun i y h => by omega, rfl, TI.start _ _ _⟩
  case round =>
    obtain ⟨k, L, s1, s2, hkl, rfl, rfl, HN, HL, hI⟩ := hrel
    by_cases h1 : k < xs.length
    · obtain ⟨x, hx'⟩ : ∃ x, xs[k]? = some x := ⟨_, List.getElem?_eq_getElem h1⟩
      rcases (unhide HA).later hI.below with e | ⟨ba, oa, rfl, hca⟩
      · subst e; simp at h1
      obtain ⟨c0, c1, c2⟩ := hca k x hx'
      obtain ⟨y, hy⟩ : ∃ y, y = cleanV x := ⟨_, rfl⟩
      have HC : Hid (∀ w, Calls Tryz.prog 31 #[x.v] w fun e w' => e = .returned y.v ∧ Below w.heap.size w w') := by rw [hy]; exact rclean_any x
      have HS : Hid (ys[k]? = some y) := by show _ = _; rw [unhide HY, hy]; simp [hx']
      have i1 : (k : Int) < (xs.length : Int) := by omega
      have hsz : w.heap.size + 1 < wr.heap.size := hI.box.lt
      have HI := hide hI
      clear hca hx' hI hy
      go_upto_region 8 with fail
      go_cut [] (fun wx => TI w wx 2 s1 noS s2 s2 9 (nlC ys k) (sC ys k) ∧ wx.rowIs wr.heap.size 59 3 (box3 y))
      case first =>
        have hI1 := (unhide HI).later (below_alloc (Below.refl _ wr) (.cells #[.int .i64 x.k, .int .i64 x.n, .string x.s] 59))
        have hv1 := box3_alloc wr x
        go_wp2_with (go_at_call 31; refine (unhide HC _).mono ?_; rintro e w1 ⟨rfl, hb1⟩; rw [Val.open_]; have hv2 := rowIs_later hv1 hb1; obtain ⟨p0, p1, p2, q0, q1, q2⟩ := box3_facts hv2)
        go_meet
        exact ⟨(hI1.later hb1).set3 hv2 (by decide) (by omega) y, box3_set hv2⟩
      case rest =>
        obtain ⟨hIx, hvx⟩ := hcut
        rename World => wx
        have HIx := hide hIx
        have HVx := hide hvx
        obtain ⟨p0, p1, p2, q0, q1, q2⟩ := box3_facts hvx
        obtain ⟨r0, r1, r2, r3, f0, f1, f2, f3⟩ := box_facts hIx.res
        clear hIx hvx HC HI c0 c1 c2
        go_upto_region 9 with fail
        go_cut [35] (fun s35 wy => (∃ bb, s35 = .bool bb ∧ Hid (bb = badK 2 y)) ∧ wy = wx)
        case first =>
          rcases Bool.eq_false_or_eq_true (y.k != 0) with e1 | e1
          · go_wp2
            go_meet
            exact ⟨⟨_, rfl, by show _ = _; simp [badK, e1]⟩, rfl⟩
          · go_wp2
            go_meet
            exact ⟨⟨_, rfl, by show _ = _; simp [badK, e1]⟩, rfl⟩
        case rest =>
          obtain ⟨⟨bb, rfl, HBB⟩, rfl⟩ := hcut
          cases bb
          rotate_left
          · have eb := (unhide HBB).symm
            have HE : Hid (X = (Vc.zero, 4)) := by
              show _ = _
              rw [← unhide HX, fromV, if_neg (by simp [kindB]), ← unhide HY, if_pos (any_hit (unhide HS) eb)]
            clear eb
            go_wp2
            refine bodyPost_ret (v := .tuple #[zeroVec, .int .i64 4]) (by simp [results, Tryz.results17, go_sem, zeroVec, *]) rfl ?_
            exact refused (unhide HE) (below_set4 (unhide HIx).below (Nat.le_refl _) _ _ _ _)
          · have HP := hide (none_step (unhide HN) (unhide HS) (unhide HBB).symm)
            clear HN r0 r1 r2 r3 f0 f1 f2 f3
            go_upto_region 11 with fail
            go_cut [7] (fun s7 wy => s7 = .bool (L || largeB y.s) ∧ wy = wc)
            case first =>
              cases L
              · go_wp2
                go_meet
                exact ⟨rfl, rfl⟩
              · go_wp2
                go_meet
                exact ⟨rfl, rfl⟩
            case rest =>
              obtain ⟨rfl, rfl⟩ := hcut
              have HQ : Hid ((L || largeB y.s) = (ys.take (k + 1)).any (fun y => largeB y.s)) := by
                show _ = _
                rw [take_one (unhide HS), List.any_append, ← unhide HL]; simp
              generalize hL' : (L || largeB y.s) = L' at HQ ⊢
              clear hL' HL
              obtain ⟨b0, b1, b2, b3, g0, g1, g2, g3⟩ := box_facts (unhide HIx).box
              have HL1 := hide (nlC_len ys k)
              have HL2 := hide (sC_len ys k)
              go_upto_region 12 with fail
              have hbz : w.heap.size + 1 < wc.heap.size := (unhide HIx).box.lt
              have HYL2 : Hid (ys.length * 32 ≤ 140737488351232) := by show _ ≤ _; rw [unhide HYL]; exact hl
              go_cut [] (fun wy => ∃ s1', TI w wy 2 s1' noS s2 s2 9 (nlC ys (k + 1)) (sC ys k) ∧ wy.rowIs wr.heap.size 59 3 (box3 y))
              case first =>
                go_wp2_with (at_builtin; refine wpList_append_own_at _ rfl (.tmp 45) (.tmp 49) 45 rfl (w.heap.size + 1 + 1) 4 i4 (.bool false) 1 1 Tryz.underlying45 hi4 z40 z41 z42 rfl (by decide) _ _ _ rfl (World.ownsRow.alloc (unhide HIx).own1 _) ⟨wc.heap.size, 0, none⟩ 1 1 [.bool (y.k == 0)] rfl rfl (cell_one_new _ _ _) (by intro u hu; simp at hu; subst hu; rfl) (by have := unhide HL1; have := unhide HYL2; unfold maxLen; omega) (by have := unhide HL1; have := unhide HYL2; omega) (by simp; omega) ?_; intro v1 w1 hown1 hgrow1 _ hat1; obtain ⟨ad1, cp1, rfl⟩ := own_shape hown1; have hgr : (wc.alloc (.cells #[.bool (y.k == 0)] 4)).grownBy w1 s1.ownBlock := hgrow1; clear hgrow1 hat1; obtain ⟨bb0, bb1, bb2, bb3, gg0, gg1, gg2, gg3⟩ := box_facts ((unhide HIx).boxg1 hgr))
                go_meet
                obtain ⟨h1', h2', _⟩ := (unhide HIx).app1 (unhide HVx) (by decide) (by decide) hown1 hgr
                exact ⟨_, by rw [nlC_one (unhide HS)]; exact h1', h2'⟩
              case rest =>
                obtain ⟨s1', hIy, hvy⟩ := hcut
                rename World => wy
                clear b0 b1 b2 b3 g0 g1 g2 g3 p0 p1 p2 q0 q1 q2 HIx HVx hbz
                have HIy := hide hIy
                obtain ⟨p0, p1, p2, q0, q1, q2⟩ := box3_facts hvy
                obtain ⟨b0, b1, b2, b3, g0, g1, g2, g3⟩ := box_facts hIy.box
                have hbz : w.heap.size + 1 < wy.heap.size := hIy.box.lt
                clear hIy hvy
                go_wp2_with (at_builtin; refine wpList_append_own_at _ rfl (.tmp 62) (.tmp 65) 47 rfl (w.heap.size + 1 + 1) 9 i2 (.string ⟨#[]⟩) 1 16 Tryz.underlying47 hi2 z20 z21 z22 rfl (by decide) _ _ _ rfl (World.ownsRow.alloc (unhide HIy).own2 _) ⟨wy.heap.size, 0, none⟩ 1 1 [.string y.s] rfl rfl (cell_one_new _ _ _) (by intro u hu; simp at hu; subst hu; rfl) (by have := unhide HL2; have := unhide HYL2; unfold maxLen; omega) (by have := unhide HL2; have := unhide HYL2; omega) (by simp; omega) ?_; intro v1 w1 hown1 hgrow1 _ hat1; obtain ⟨ad1, cp1, rfl⟩ := own_shape hown1; have hgr : (wy.alloc (.cells #[.string y.s] 9)).grownBy w1 s2.ownBlock := hgrow1; clear hgrow1 hat1; obtain ⟨bb0, bb1, bb2, bb3, gg0, gg1, gg2, gg3⟩ := box_facts ((unhide HIy).boxg2 (by decide) hgr))
                go_roundw
                case rel => exact ⟨k + 1, L', s1', _, by omega, by go_num, rfl, HP, HQ, by rw [sC_one (unhide HS)]; exact (unhide HIy).app3 hown1 hgr⟩
                case measure => simp [intOf]; omega
    · have e : k = xs.length := by omega
      have i1 : ¬ (k : Int) < (xs.length : Int) := by omega
      have HB : Hid (ys.any (badK 2) = false) := any_none (by rw [unhide HYL, ← e]; exact unhide HN)
      have HLL : Hid (L = ys.any (fun y => largeB y.s)) := by
        have := unhide HL
        rw [e, ← unhide HYL, List.take_length] at this
        exact this
      have HF : Hid (nlC ys k = (nlOf ys).map .bool ∧ sC ys k = (ys.map (·.s)).map .string) := by
        unfold nlC sC
        rw [e, ← unhide HYL, List.take_length]
        exact ⟨rfl, rfl⟩
      obtain ⟨a1, c1, rfl, hl1, hf1⟩ := lis_of_own hI.own1
      obtain ⟨a2, c2, rfl, hl2, hf2⟩ := lis_of_own hI.own2
      rw [(unhide HF).1] at hl1
      rw [(unhide HF).2] at hl2
      have e1 : ((nlOf ys).map Value.bool).length = xs.length := by rw [← unhide HYL]; simp [nlOf]
      have e2 : ((ys.map (·.s)).map Value.string).length = xs.length := by rw [← unhide HYL]; simp
      rw [(unhide HF).1, (unhide HF).2, e1, e2] at hI
      have HI := hide hI
      have HL1 := hide hl1
      have HL2 := hide hl2
      have HF1 := hide hf1
      have HF2 := hide hf2
      obtain ⟨r0, r1, r2, r3, f0, f1, f2, f3⟩ := box_facts hI.res
      obtain ⟨b0, b1, b2, b3, g0, g1, g2, g3⟩ := box_facts hI.box
      have b3' : wr.cell? ⟨w.heap.size + 1, 2, none⟩ = some (.slice none 0 0) := b2
      clear hI e hl1 hl2 hf1 hf2 b2 e1 e2
      cases L
      · have HE : Hid (X = (laidV 2 ys, 0)) := by
          show _ = _
          rw [← unhide HX, fromV, if_neg (by simp [kindB]), ← unhide HY, if_neg (by rw [unhide HB]; simp), if_neg (by rw [← unhide HLL]; simp)]
        go_wp2
        refine bodyPost_ret (v := .tuple #[.agg #[.int .i64 2, .slice a1 xs.length c1, .slice none 0 0, .slice a2 xs.length c2], .int .i64 0]) (by simp [results, Tryz.results17, go_sem, *]) rfl ?_
        rw [unhide HE]
        refine ⟨⟨a1, c1, none, 0, a2, c2⟩, ?_, ?_, ?_, below_set4 (unhide HI).below (Nat.le_refl _) _ _ _ _⟩
        · rw [vecV_open]; simp [laidV, nlOf, unhide HYL]
        · exact VecAt.setO4 (X := laidV 2 ys) (p := ⟨a1, c1, none, 0, a2, c2⟩) (base := w.heap.size + 1 + 1) ⟨unhide HL1, .inl rfl, unhide HL2⟩ ⟨unhide HF1, by simp, unhide HF2⟩ (by omega) _ _ _ _
        · exact Fresh.less (c := w.heap.size + 1 + 1) ⟨unhide HF1, by simp, unhide HF2⟩ (by omega)
      · have HE : Hid (X = (Vc.zero, 3)) := by
          show _ = _
          rw [← unhide HX, fromV, if_neg (by simp [kindB]), ← unhide HY, if_neg (by rw [unhide HB]; simp), if_pos (unhide HLL).symm]
        go_wp2
        refine bodyPost_ret (v := .tuple #[zeroVec, .int .i64 3]) (by simp [results, Tryz.results17, go_sem, zeroVec, *]) rfl ?_
        exact refused (unhide HE) (below_set4 (unhide HI).below (Nat.le_refl _) _ _ _ _)

set_option maxHeartbeats 1000000 in
theorem rfrom_other (a : Option Addr) (c : Nat) (kind : Int) (xs : List Val) (w : World) (h1 : (kind != 1) = true) (h2 : (kind != 2) = true) :
    Calls Tryz.prog 17 #[.int .i64 kind, .slice a xs.length c] w fun e w' => ∃ p, e = .returned (.tuple #[vecV (fromV kind xs).1 p, .int .i64 (fromV kind xs).2]) ∧ VecAt w' (fromV kind xs).1 p ∧ Fresh w.heap.size p ∧ Below w.heap.size w w' := by
  have HE : Hid (fromV kind xs = (Vc.zero, 1)) := by
    show _ = _
    rw [fromV, if_pos (by simp at h1 h2; simp [kindB, h1, h2])]
  generalize fromV kind xs = X at HE ⊢
  go_enter Tryz.func17, Tryz.ntmps17
  go_wp2
  refine bodyPost_ret (v := .tuple #[zeroVec, .int .i64 1]) (by simp [results, Tryz.results17, go_sem, zeroVec, *]) rfl ?_
  exact refused (unhide HE) (by repeat (first | exact Below.refl _ _ | refine Below.alloc ?_ (by simp <;> omega) _ | refine Below.setCell ?_ (by simp <;> omega) _))
theorem rfrom_any (a : Option Addr) (c : Nat) (kind : Int) (xs : List Val) (w : World) (hl : xs.length * 32 ≤ 140737488351232) (ha : RowAt w a xs) :
    Calls Tryz.prog 17 #[.int .i64 kind, .slice a xs.length c] w fun e w' => ∃ p, e = .returned (.tuple #[vecV (fromV kind xs).1 p, .int .i64 (fromV kind xs).2]) ∧ VecAt w' (fromV kind xs).1 p ∧ Fresh w.heap.size p ∧ Below w.heap.size w w' := by
  by_cases h1 : kind = 1
  · subst h1; exact rfrom_int a c xs w hl ha
  · by_cases h2 : kind = 2
    · subst h2; exact rfrom_text a c xs w hl ha
    · exact rfrom_other a c kind xs w (by simpa using h1) (by simpa using h2)
end Go.Proofs.YthbfomcmjjnikaaGreat

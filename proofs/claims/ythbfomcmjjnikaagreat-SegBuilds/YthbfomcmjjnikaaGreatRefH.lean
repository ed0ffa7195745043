import Derived.Test.YthbfomcmjjnikaaGreatPackY
import Derived.Test.YthbfomcmjjnikaaGreatRefD
import Derived.Test.YthbfomcmjjnikaaGreatRef2
import Derived.Test.YthbfomcmjjnikaaGreatRef3
import Derived.Test.YthbfomcmjjnikaaGreatRef4
import Derived.Test.YthbfomcmjjnikaaGreatRefF
import Derived.Test.YthbfomcmjjnikaaGreatPackW
import Derived.Test.YthbfomcmjjnikaaGreatRxM
import Derived.Test.YthbfomcmjjnikaaGreatRyW
set_option linter.unusedSimpArgs false
set_option linter.unusedVariables false
namespace Go.Proofs.YthbfomcmjjnikaaGreat
open Go.RowKit Go.Sort

/-- What the document's Write answers. -/
def RW (X : Vc) (sch : Int) (s : ByteArray) (f : Int) : Prop :=
  (badW X sch = true ∧ s = ⟨#[]⟩ ∧ f = 1) ∨ (badW X sch = false ∧ 4096 < X.nl.length ∧ s = ⟨#[]⟩ ∧ f = 3) ∨
  (badW X sch = false ∧ X.nl.length ≤ 4096 ∧ f = 0 ∧ ∃ b, RBody sch.toNat (standL (valsV X)) b ∧ s = toB (headB sch.toNat X.k.toNat (valsV X) ++ b))
theorem rwrite_any (X : Vc) (p : Sl) (sch : Int) (w : World) (hs : small X) (hp : VecAt w X p) :
    Calls Tryz.prog 62 #[vecV X p, .int .i64 sch] w fun e w' => ∃ s f, e = .returned (.tuple #[.string s, .int .i64 f]) ∧ Hid (RW X sch s f) ∧ Below w.heap.size w w' := by
  cases hbad : badW X sch
  · by_cases hbig : 4096 < X.nl.length
    · exact (rwrite_large X p sch w hs hp hbad hbig).mono fun e w' ⟨he, hb⟩ => ⟨_, _, he, .inr (.inl ⟨hbad, hbig, rfl, rfl⟩), hb⟩
    · have hb2 := hbad
      simp only [badW, Bool.or_eq_false_iff, Bool.not_eq_false', decide_eq_false_iff_not] at hb2
      obtain ⟨⟨⟨hg, h1⟩, h2⟩, h3⟩ := hb2
      obtain ⟨n, rfl⟩ : ∃ n : Nat, sch = (n : Int) := ⟨sch.toNat, by omega⟩
      obtain ⟨kd, hk⟩ : ∃ kd : Nat, X.k = (kd : Int) := ⟨X.k.toNat, by have := good_kind hg; omega⟩
      have hkd : kd = 1 ∨ kd = 2 := by have := good_kind hg; omega
      have h4 : ¬ (n = 4 ∧ kd = 2) := fun ⟨a, b⟩ => by
        subst a b
        rw [hk] at h3
        exact absurd h3 (by decide)
      have key : Calls Tryz.prog 62 #[vecV X p, .int .i64 (n : Int)] w fun e w' => ∃ b, e = .returned (.tuple #[.string (toB (headB n kd (valsV X) ++ b)), .int .i64 0]) ∧ RBody n (standL (valsV X)) b ∧ Below w.heap.size w w' := by
        have hn : n = 1 ∨ n = 2 ∨ n = 3 ∨ n = 4 := by omega
        rcases hn with rfl | rfl | rfl | rfl
        · exact rwrite1 X p kd w hs hp hg hk hkd h4 (by omega)
        · exact rwrite2 X p kd w hs hp hg hk hkd h4 (by omega)
        · exact rwrite3 X p kd w hs hp hg hk hkd h4 (by omega)
        · exact rwrite4 X p kd w hs hp hg hk hkd h4 (by omega)
      refine key.mono fun e w' ⟨b, he, hB, hb⟩ => ⟨_, _, he, .inr (.inr ⟨hbad, by omega, rfl, b, ?_, ?_⟩), hb⟩
      · simpa using hB
      · rw [hk]
        simp
  · exact (rwrite_bad X p sch w hs hp hbad).mono fun e w' ⟨he, hb⟩ => ⟨_, _, he, .inl ⟨hbad, rfl, rfl⟩, hb⟩
def RB (X : Vc) : Nat → ByteArray → Prop
  | 0, b => RW X 1 b 0
  | i + 1, b => ∃ c s f, RB X i c ∧ RW X ((i : Int) + 2) s f ∧ b = pickB c s f
/-- What the program's Pack answers. -/
def RP (X : Vc) (s : ByteArray) (f : Int) : Prop := (f = 0 ∧ RB X 3 s) ∨ (s = ⟨#[]⟩ ∧ f ≠ 0 ∧ ∃ t, RW X 1 t f)

set_option maxHeartbeats 8000000 in
set_option maxRecDepth 100000 in
theorem rpack_any (X : Vc) (p : Sl) (w : World) (hs : small X) (hp : VecAt w X p) :
    Calls Tryz.prog 34 #[vecV X p] w fun e w' => ∃ s f, e = .returned (.tuple #[.string s, .int .i64 f]) ∧ Hid (RP X s f) ∧ Below w.heap.size w w' := by
  have HW : Hid (∀ W sch, Below w.heap.size w W → Calls Tryz.prog 62 #[vecV X p, .int .i64 sch] W fun e w' => ∃ s f, e = .returned (.tuple #[.string s, .int .i64 f]) ∧ Hid (RW X sch s f) ∧ Below W.heap.size W w') := fun W sch hW => rwrite_any X p sch W hs (hp.later hW)
  rw [vecV_open] at HW ⊢
  have bl := below_alloc (Below.refl _ w) (.cells #[.int .i64 X.k, .slice p.a1 X.nl.length p.c1, .slice p.a2 X.ns.length p.c2, .slice p.a3 X.ss.length p.c3] 49)
  have HW1 := hide (unhide HW _ 1 bl)
  have FACT : Hid (∀ w1, Below (w.alloc (.cells #[.int .i64 X.k, .slice p.a1 X.nl.length p.c1, .slice p.a2 X.ns.length p.c2, .slice p.a3 X.ss.length p.c3] 49)).heap.size (w.alloc (.cells #[.int .i64 X.k, .slice p.a1 X.nl.length p.c1, .slice p.a2 X.ns.length p.c2, .slice p.a3 X.ss.length p.c3] 49)) w1 → Box4 w1 w.heap.size X p ∧ Below w.heap.size w w1) := fun w1 hb1 => by
    obtain ⟨hc1, _⟩ := bcell hb1
    refine ⟨⟨?_, ?_, ?_, ?_⟩, below_step bl hb1⟩ <;> (rw [hc1 _ _ (by simp)]; simp [go_sem])
  clear bl hs hp
  go_enter Tryz.func34, Tryz.ntmps34
  go_upto_region 2 with (first | (go_at_call 62; refine (unhide HW1).mono ?_; rintro e w1 ⟨s1, f1, rfl, HP1, hb1⟩; replace hb1 := hide hb1) | fail)
  rcases Bool.eq_false_or_eq_true (f1 == 0) with e0 | e0
  · have e1 : (f1 != 0) = false := by simp [bne, e0]
    have e2 : f1 = 0 := by simpa using e0
    have HP0 : Hid (RB X 0 s1) := by show RW X 1 s1 0; rw [← e2]; exact unhide HP1
    clear e0 e2 HP1
    go_wp2_with fail
    have HB1 := hide (unhide FACT _ (unhide hb1)).2
    have HX1 := hide (unhide FACT _ (unhide hb1)).1
    have hsz1 : w.heap.size < w1.heap.size := World.block_lt_of_cell? _ _ (unhide HX1).1
    go_loopw [4, 6] (fun s4 s wr => ∃ (i : Nat) (b : ByteArray), i ≤ 3 ∧ s = .int .i64 ((i : Int) + 2) ∧ s4 = .string b ∧ Hid (RB X i b) ∧ Below w1.heap.size w1 wr) (fun _ s _ => 6 - (intOf s).toNat)
    case atStart => exact ⟨0, s1, by omega, rfl, rfl, unhide HP0, Below.refl _ _⟩
    case round =>
      obtain ⟨i, b, hi, rfl, rfl, HPB, hb⟩ := hrel
      by_cases h8 : i < 3
      · have h9 : (i : Int) + 2 ≤ 4 := by omega
        obtain ⟨x0, x1, x2, x3⟩ := (unhide HX1).later hb
        have HWi := hide (unhide HW wr ((i : Int) + 2) (below_step (unhide HB1) hb))
        have HB := hide hb
        clear hb
        go_upto_region 8 with (first | (go_at_call 62; refine (unhide HWi).mono ?_; rintro e w2 ⟨s2, f2, rfl, HP2, hb2⟩; have HB2 := hide (below_step (unhide HB) hb2); clear hb2) | fail)
        rcases Bool.eq_false_or_eq_true (f2 == 0) with e0 | e0
        · by_cases hlt : s2.size < b.size
          · have j1 : (s2.size : Int) < (b.size : Int) := by omega
            have HN : Hid (RB X (i + 1) s2) := ⟨b, s2, f2, unhide HPB, unhide HP2, by rw [pickB, if_pos ⟨by simpa using e0, hlt⟩]⟩
            go_wp2
            go_roundw
            case rel => exact ⟨i + 1, s2, by omega, by go_num, rfl, HN, unhide HB2⟩
            case measure => first | (simp [intOf]; omega) | (simp only [intOf]; omega)
          · have j1 : ¬ (s2.size : Int) < (b.size : Int) := by omega
            have HN : Hid (RB X (i + 1) b) := ⟨b, s2, f2, unhide HPB, unhide HP2, by rw [pickB, if_neg (fun h => hlt h.2)]⟩
            go_wp2
            go_roundw
            case rel => exact ⟨i + 1, b, by omega, by go_num, rfl, HN, unhide HB2⟩
            case measure => first | (simp [intOf]; omega) | (simp only [intOf]; omega)
        · have HN : Hid (RB X (i + 1) b) := ⟨b, s2, f2, unhide HPB, unhide HP2, by rw [pickB, if_neg (fun h => by simp [h.1] at e0)]⟩
          go_wp2
          go_roundw
          case rel => exact ⟨i + 1, b, by omega, by go_num, rfl, HN, unhide HB2⟩
          case measure => first | (simp [intOf]; omega) | (simp only [intOf]; omega)
      · have h9 : ¬ (i : Int) + 2 ≤ 4 := by omega
        have h3 : i = 3 := by omega
        rw [h3] at HPB
        have HE : Hid (RP X b 0) := .inl ⟨rfl, unhide HPB⟩
        have HB := hide (below_step (unhide HB1) hb)
        clear hb h3
        go_wp2
        refine bodyPost_ret (v := .tuple #[.string b, .int .i64 0]) (by simp [results, Tryz.results34, go_sem]) rfl ⟨_, _, rfl, HE, unhide HB⟩
  · have e1 : (f1 != 0) = true := by simp [bne, e0]
    have HE : Hid (RP X ⟨#[]⟩ f1) := .inr ⟨rfl, by simpa using e0, s1, unhide HP1⟩
    have HB := hide (unhide FACT _ (unhide hb1)).2
    clear e0
    go_wp2
    refine bodyPost_ret (v := .tuple #[.string ⟨#[]⟩, .int .i64 f1]) (by simp [results, Tryz.results34, go_sem]) rfl ⟨_, _, rfl, HE, unhide HB⟩
end Go.Proofs.YthbfomcmjjnikaaGreat
set_option linter.unusedSimpArgs false
set_option linter.unusedVariables false
namespace Go.Proofs.YthbfomcmjjnikaaGreat
open Go.RowKit Go.Sort

theorem ord_num (a b : Int) : ordV (.num a) (.num b) = cmpI a b := by
  unfold ordV
  show orI (cmpI 1 1) (cmpI a b) (cmpB ⟨#[]⟩ ⟨#[]⟩) = _
  rw [cmpI_self, cmpB_nil, orI_last]
def In63 (n : Int) : Prop := -9223372036854775808 ≤ n ∧ n ≤ 9223372036854775807
def Nums (ys : List Val) : Prop := ∀ y ∈ ys, ∃ n, In63 n ∧ y = .num n
theorem ord_nle {x y : Val} (hx : ∃ n, In63 n ∧ x = .num n) (hy : ∃ n, In63 n ∧ y = .num n) : ordV x y ≤ 0 ↔ x.n ≤ y.n := by
  obtain ⟨a, _, rfl⟩ := hx
  obtain ⟨b, _, rfl⟩ := hy
  rw [ord_num]
  show cmpI a b ≤ 0 ↔ a ≤ b
  unfold cmpI
  split
  · omega
  · split <;> omega
theorem min_spec : ∀ (ys : List Val) (m : Val), minFrom m ys ∈ m :: ys ∧ ∀ y ∈ m :: ys, ordV (minFrom m ys) y ≤ 0
  | [], m => ⟨by simp [minFrom], fun y hy => by simp at hy; subst hy; rw [minFrom, List.foldl_nil, ord_self]; omega⟩
  | z :: ys, m => by
    have e : minFrom m (z :: ys) = minFrom (if ordV z m < 0 then z else m) ys := rfl
    rw [e]
    obtain ⟨h1, h2⟩ := min_spec ys (if ordV z m < 0 then z else m)
    have hle := h2 _ (List.mem_cons_self ..)
    by_cases hz : ordV z m < 0
    · rw [if_pos hz] at h1 h2 hle ⊢
      refine ⟨?_, fun y hy => ?_⟩
      · rcases List.mem_cons.1 h1 with h | h
        · rw [h]; simp
        · simp [h]
      · rcases List.mem_cons.1 hy with rfl | hy
        · exact ord_le hle (by omega)
        · rcases List.mem_cons.1 hy with rfl | hy
          · exact hle
          · exact h2 y (by simp [hy])
    · rw [if_neg hz] at h1 h2 hle ⊢
      have hmz : ordV m z ≤ 0 := by have := ord_anti m z; omega
      refine ⟨?_, fun y hy => ?_⟩
      · rcases List.mem_cons.1 h1 with h | h
        · rw [h]; simp
        · simp [h]
      · rcases List.mem_cons.1 hy with rfl | hy
        · exact hle
        · rcases List.mem_cons.1 hy with rfl | hy
          · exact ord_le hle hmz
          · exact h2 y (by simp [hy])
theorem comp_head (xs : List Val) (h : 0 < xs.length) : ∀ j, j < xs.length → (compT xs j)[0]? = some (atL xs 0)
  | 0, _ => by
    rw [compT, List.getElem?_take, if_pos (by omega)]
    exact atL_some h
  | j + 1, hj => by
    have ih := comp_head xs h j (by omega)
    rw [compT, List.getElem?_append_left (List.getElem?_eq_some_iff.1 ih).1]
    exact ih
theorem comp_last (xs : List Val) : ∀ j, j < xs.length → (compT xs j).getLast? = some (atL xs j)
  | 0, h => by
    rw [compT, List.take_one, List.head?_eq_getElem?, atL_some h]
    rfl
  | j + 1, h => by
    have ih := comp_last xs j (by omega)
    rw [comp_next (atL_some h) (atL_some (by omega : j < xs.length))]
    by_cases hs : sameB (atL xs (j + 1)) (atL xs j) = true
    · rw [if_pos hs, List.append_nil, ih, sameB_eq.1 hs]
    · rw [if_neg hs, List.getLast?_append]
      simp
theorem bl_mono {a b : Nat} (h : a ≤ b) : bl a ≤ bl b := bl_le (Nat.lt_of_le_of_lt h (bl_lt b))
theorem wid_upto (least : Int) (D : Nat) : ∀ (xs : List Val) (m : Nat), m ≤ D → (∀ x ∈ xs, bl (offN least x) ≤ D) → xs.foldl (fun m x => max m (bl (offN least x))) m ≤ D
  | [], m, h, _ => h
  | x :: xs, m, h, h2 => by
    rw [List.foldl_cons]
    refine wid_upto least D xs _ ?_ (fun y hy => h2 y (by simp [hy]))
    have := h2 x (by simp)
    omega
/-- The offsets of both sides. -/
theorem offs_same {ys S : List Val} (hn : Nums ys) (hp : S.Perm ys) (hr : Rises S) : leastI ys = firstI (compL S) ∧ widL (leastI ys) ys = bl (farN (compL S)) := by
  by_cases h0 : ys.length = 0
  · have e : ys = [] := List.eq_nil_of_length_eq_zero h0
    subst e
    have e2 : S = [] := List.Perm.eq_nil hp
    subst e2
    exact ⟨rfl, rfl⟩
  · have hSl : S.length = ys.length := hp.length_eq
    have hS0 : 0 < S.length := by omega
    have hWm : ∀ k, k < S.length → atL S k ∈ ys := fun k hk => hp.mem_iff.1 (List.mem_of_getElem? (atL_some hk))
    obtain ⟨x, t, rfl⟩ : ∃ x t, ys = x :: t := by
      cases ys with
      | nil => simp at h0
      | cons x t => exact ⟨x, t, rfl⟩
    obtain ⟨m1, m2⟩ := min_spec t x
    have hW0 : (compL S)[0]? = some (atL S 0) := comp_head S hS0 _ (by omega)
    have hWl := (List.getElem?_eq_some_iff.1 hW0).1
    have hf : firstI (compL S) = (atL S 0).n := by rw [firstI, if_neg (by omega), atL_of hW0]
    have hla : lastI (compL S) = (atL S (S.length - 1)).n := by
      have h1 := comp_last S (S.length - 1) (by omega)
      rw [List.getLast?_eq_getElem?] at h1
      rw [lastI, if_neg (by omega)]
      exact congrArg Val.n (atL_of h1)
    have lo : ∀ y ∈ x :: t, (atL S 0).n ≤ y.n := fun y hy => by
      obtain ⟨i, hi, e⟩ := List.getElem_of_mem (hp.mem_iff.2 hy)
      have := hr.at (Nat.zero_le i) (atL_some hS0) (by rw [List.getElem?_eq_getElem hi, e])
      exact (ord_nle (hn _ (hWm 0 hS0)) (hn y hy)).1 this
    have hi' : ∀ y ∈ x :: t, y.n ≤ (atL S (S.length - 1)).n := fun y hy => by
      obtain ⟨i, hi, e⟩ := List.getElem_of_mem (hp.mem_iff.2 hy)
      have := hr.at (show i ≤ S.length - 1 by omega) (by rw [List.getElem?_eq_getElem hi, e]) (atL_some (show S.length - 1 < S.length by omega))
      exact (ord_nle (hn y hy) (hn _ (hWm _ (by omega)))).1 this
    have hle : leastI (x :: t) = (atL S 0).n := by
      show (minFrom x t).n = _
      have h1 := lo _ m1
      have h2 := (ord_nle (hn _ m1) (hn _ (hWm 0 hS0))).1 (m2 _ (hWm 0 hS0))
      omega
    refine ⟨hle.trans hf.symm, ?_⟩
    rw [hle]
    have hfar : farN (compL S) = offN (atL S 0).n (atL S (S.length - 1)) := by unfold farN offN; rw [hla, hf]
    rw [hfar]
    have hoff : ∀ y ∈ x :: t, offN (atL S 0).n y = (y.n - (atL S 0).n).toNat := fun y hy => by
      obtain ⟨b, hb, e⟩ := hn y hy
      obtain ⟨c, hc, e2⟩ := hn _ (hWm 0 hS0)
      have h1 := lo y hy
      have ey : y.n = b := by rw [e]; rfl
      have ec : (atL S 0).n = c := by rw [e2]; rfl
      have h3 : c ≤ b := by rw [← ec, ← ey]; exact h1
      unfold offN
      rw [ey, ec]
      unfold In63 at hb hc
      congr 1
      omega
    apply Nat.le_antisymm
    · refine wid_upto _ _ _ _ (Nat.zero_le _) fun y hy => bl_mono ?_
      rw [hoff y hy, hoff _ (hWm _ (by omega))]
      have := hi' y hy
      omega
    · exact (wid_ge _ _ 0).2 _ (hWm _ (by omega))
/-- Both sides write the same. -/
theorem body_same {n : Nat} {ys : List Val} {b b' : List Int} (hc : ∀ y ∈ ys, cleanV y = y) (hn : n = 4 → Nums ys) (h1 : BodyB n ys b) (h2 : RBody n ys b') : b = b' := by
  rcases h1 with ⟨e, h1⟩ | ⟨e, h1⟩ | ⟨e, W, ⟨S1, p1, r1, e1⟩, h1⟩ | ⟨e, h1⟩ <;> rcases h2 with ⟨e', h2⟩ | ⟨e', h2⟩ | ⟨e', S2, p2, r2, h2⟩ | ⟨e', S2, p2, r2, h2⟩ <;> (try omega)
  · rw [h1, h2]
  · rw [h1, h2, (runs_same ys.length ys hc).1, (runs_same ys.length ys hc).2]
  · have hc1 : ∀ y ∈ S1, cleanV y = y := fun y hy => hc y (p1.mem_iff.1 hy)
    have hS : S1 = S2 := rises_eq r1 r2 (p1.trans p2.symm) hc1
    subst hS
    rw [h1, h2, e1, unl_compL hc1]
  · have hc2 : ∀ y ∈ S2, cleanV y = y := fun y hy => hc y (p2.mem_iff.1 hy)
    obtain ⟨q1, q2⟩ := offs_same (hn e) p2 r2
    rw [h1, h2, unl_compL hc2]
    unfold offsB offsR
    have e3 : (((lastI (compL S2) - firstI (compL S2)) % 18446744073709551616).toNat) = farN (compL S2) := rfl
    rw [e3, ← q2, ← q1]
end Go.Proofs.YthbfomcmjjnikaaGreat
set_option linter.unusedSimpArgs false
set_option linter.unusedVariables false
namespace Go.Proofs.YthbfomcmjjnikaaGreat
open Go.RowKit Go.Sort

theorem bad_good {X : Vc} {sch : Int} (h : badW X sch = false) : goodB X = true ∧ (sch = 4 → X.k = 1) := by
  simp only [badW, Bool.or_eq_false_iff, Bool.not_eq_false', decide_eq_false_iff_not] at h
  obtain ⟨⟨⟨hg, h1⟩, h2⟩, h3⟩ := h
  refine ⟨hg, fun e => ?_⟩
  subst e
  rcases good_kind hg with h | h
  · exact h
  · rw [h] at h3; exact absurd h3 (by decide)
theorem same_write {X : Vc} {sch : Int} {s t : ByteArray} {f g : Int} (hn : ∀ n ∈ X.ns, In63 n) (h1 : PW X sch s f) (h2 : RW X sch t g) : t = s ∧ g = f := by
  rcases h1 with ⟨b1, rfl, rfl⟩ | ⟨b1, l1, rfl, rfl⟩ | ⟨b1, l1, rfl, b, hb, rfl⟩ <;> rcases h2 with ⟨b2, rfl, rfl⟩ | ⟨b2, l2, rfl, rfl⟩ | ⟨b2, l2, rfl, b', hb', rfl⟩
  · exact ⟨rfl, rfl⟩
  · rw [b1] at b2; cases b2
  · rw [b1] at b2; cases b2
  · rw [b1] at b2; cases b2
  · exact ⟨rfl, rfl⟩
  · omega
  · rw [b1] at b2; cases b2
  · omega
  · obtain ⟨hg, hk⟩ := bad_good b1
    have e := body_same (fun y hy => vals_clean hg (List.mem_filter.1 hy).1) (fun e4 y hy => ?_) hb hb'
    · rw [e]; exact ⟨rfl, rfl⟩
    · obtain ⟨hy1, hy2⟩ := List.mem_filter.1 hy
      have hk1 := hk (by omega)
      rcases vals_kind hg hy1 with rfl | ⟨_, n, hn1, rfl⟩ | ⟨h2, _⟩
      · simp [Val.null] at hy2
      · refine ⟨n, ?_, rfl⟩
        rcases hn1 with h | h
        · exact hn n h
        · rw [h]; unfold In63; omega
      · rw [hk1] at h2; cases h2
theorem same_best {X : Vc} (hn : ∀ n ∈ X.ns, In63 n) : ∀ (i : Nat) (s t : ByteArray), PB X i s → RB X i t → t = s
  | 0, s, t, h1, h2 => (same_write hn h1 h2).1
  | i + 1, s, t, ⟨c, s1, f1, h1, h2, e⟩, ⟨c', s2, f2, h1', h2', e'⟩ => by
    have q1 := same_best hn i c c' h1 h1'
    obtain ⟨q2, q3⟩ := same_write hn h2 h2'
    rw [e, e', q1, q2, q3]
theorem same_pack {X : Vc} {s t : ByteArray} {f g : Int} (hn : ∀ n ∈ X.ns, In63 n) (h1 : PP X s f) (h2 : RP X t g) : t = s ∧ g = f := by
  have z1 : ∀ b, PB X 3 b → ∃ c, PW X 1 c 0 := fun b h => by
    obtain ⟨c, _, _, h, _⟩ := h
    obtain ⟨c, _, _, h, _⟩ := h
    obtain ⟨c, _, _, h, _⟩ := h
    exact ⟨c, h⟩
  have z2 : ∀ b, RB X 3 b → ∃ c, RW X 1 c 0 := fun b h => by
    obtain ⟨c, _, _, h, _⟩ := h
    obtain ⟨c, _, _, h, _⟩ := h
    obtain ⟨c, _, _, h, _⟩ := h
    exact ⟨c, h⟩
  rcases h1 with ⟨rfl, h1⟩ | ⟨rfl, h1, c, hc⟩ <;> rcases h2 with ⟨rfl, h2⟩ | ⟨rfl, h2, c', hc'⟩
  · exact ⟨same_best hn 3 _ _ h1 h2, rfl⟩
  · obtain ⟨c, hc⟩ := z1 _ h1
    exact absurd (same_write hn hc hc').2 h2
  · obtain ⟨c', hc'⟩ := z2 _ h2
    exact absurd (same_write hn hc hc').2.symm h1
  · exact ⟨rfl, (same_write hn hc hc').2⟩
theorem PW.rng {X : Vc} {sch : Int} {s : ByteArray} {f : Int} (h : PW X sch s f) : -9223372036854775808 ≤ f ∧ f ≤ 9223372036854775807 := by
  rcases h with ⟨_, _, rfl⟩ | ⟨_, _, _, rfl⟩ | ⟨_, _, rfl, _⟩ <;> omega
theorem PP.rng {X : Vc} {s : ByteArray} {f : Int} (h : PP X s f) : -9223372036854775808 ≤ f ∧ f ≤ 9223372036854775807 := by
  rcases h with ⟨rfl, _⟩ | ⟨_, _, c, hc⟩
  · omega
  · exact hc.rng

end Go.Proofs.YthbfomcmjjnikaaGreat
set_option linter.unusedSimpArgs false
set_option linter.unusedVariables false
namespace Go.Proofs.YthbfomcmjjnikaaGreat
open Go.RowKit Go.Sort

theorem rbody_body {n : Nat} {ys : List Val} {b : List Int} (h : RBody n ys b) : ∃ b', BodyB n ys b' := by
  rcases h with ⟨rfl, _⟩ | ⟨rfl, _⟩ | ⟨rfl, S, h1, h2, _⟩ | ⟨rfl, _⟩
  · exact ⟨_, .inl ⟨rfl, rfl⟩⟩
  · exact ⟨_, .inr (.inl ⟨rfl, rfl⟩)⟩
  · exact ⟨_, .inr (.inr (.inl ⟨rfl, _, ⟨S, h1, h2, rfl⟩, rfl⟩))⟩
  · exact ⟨_, .inr (.inr (.inr ⟨rfl, rfl⟩))⟩
/-- What the document's Write writes, the program's Write writes. -/
theorem rw_pw {X : Vc} {sch : Int} {s : ByteArray} (hn : ∀ n ∈ X.ns, In63 n) (h : RW X sch s 0) : PW X sch s 0 := by
  have h' := h
  rcases h with ⟨_, _, h⟩ | ⟨_, _, _, h⟩ | ⟨b1, l1, _, b, hb, rfl⟩
  · exact absurd h (by decide)
  · exact absurd h (by decide)
  · obtain ⟨b', hb'⟩ := rbody_body hb
    have hp : PW X sch (toB (headB sch.toNat X.k.toNat (valsV X) ++ b')) 0 := .inr (.inr ⟨b1, l1, rfl, b', hb', rfl⟩)
    rw [(same_write hn hp h').1]
    exact hp
theorem in63_ok {n : Int} (h : -9223372036854775808 ≤ n ∧ n ≤ 9223372036854775807) : In63 n := by
  unfold In63; omega
theorem of_in63 {n : Int} (h : In63 n) : -9223372036854775808 ≤ n ∧ n ≤ 9223372036854775807 := by
  unfold In63 at h; omega
/-- What the document writes is read so. -/
theorem written_read {X : Vc} (hn : ∀ n ∈ X.ns, In63 n) {n : Nat} (h4 : n = 1 ∨ n = 2 ∨ n = 3 ∨ n = 4) {s : ByteArray} (h : RW X (n : Int) s 0) : columnD s.data.toList = some (n, X.k, valsV X) :=
  packed_col (fun k hk => of_in63 (hn k hk)) h4 (rw_pw hn h)
theorem fits_c {kind : Int} {x : Val} (h : Fits kind x) : badK kind x = false ∧ largeB x.s = false ∧ -9223372036854775808 ≤ x.n ∧ x.n ≤ 9223372036854775807 := by
  rcases h with ⟨rfl, n, h1, h2, rfl⟩ | ⟨rfl, s, h1, rfl⟩
  · refine ⟨rfl, large_le.2 ?_, h1, h2⟩
    show (0 : Nat) ≤ 1000
    omega
  · exact ⟨rfl, large_le.2 h1, by show -9223372036854775808 ≤ (0 : Int); decide, by show (0 : Int) ≤ 9223372036854775807; decide⟩
/-- What is read is a column. -/
theorem read_col {l : List UInt8} {sch : Nat} {kind : Int} {xs : List Val} (h : columnD l = some (sch, kind, xs)) : fromV kind xs = (laidV kind xs, 0) ∧ ∀ x ∈ xs, cleanV x = x ∧ -9223372036854775808 ≤ x.n ∧ x.n ≤ 9223372036854775807 := by
  obtain ⟨b, hk, hlen, h1, h4, h41, hb, hl, hf, h0⟩ := columnD_forth h
  have hall : ∀ x ∈ xs, cleanV x = x ∧ badK kind x = false ∧ largeB x.s = false ∧ -9223372036854775808 ≤ x.n ∧ x.n ≤ 9223372036854775807 := fun x hx => by
    by_cases h0x : x.k = 0
    · rw [h0 x hx h0x]
      refine ⟨rfl, ?_, large_le.2 (by show (0 : Nat) ≤ 1000; omega), by show -9223372036854775808 ≤ (0 : Int); decide, by show (0 : Int) ≤ 9223372036854775807; decide⟩
      rcases hk with rfl | rfl <;> rfl
    · have hx2 : x ∈ standL xs := List.mem_filter.2 ⟨hx, by simp [h0x]⟩
      have := fits_c (hf x hx2)
      exact ⟨fits_clean (hf x hx2), this.1, this.2.1, this.2.2⟩
  have ec : xs.map cleanV = xs := by
    conv => rhs; rw [← List.map_id xs]
    exact List.map_congr_left fun y hy => (hall y hy).1
  refine ⟨?_, fun x hx => ⟨(hall x hx).1, (hall x hx).2.2.2⟩⟩
  unfold fromV
  rw [ec, if_neg, if_neg, if_neg]
  · intro hh
    obtain ⟨y, hy, hyy⟩ := List.any_eq_true.1 hh
    rw [(hall y hy).2.2.1] at hyy; cases hyy
  · intro hh
    obtain ⟨y, hy, hyy⟩ := List.any_eq_true.1 hh
    rw [(hall y hy).2.1] at hyy; cases hyy
  · rcases hk with rfl | rfl <;> decide
theorem good_bad {X : Vc} {sch : Nat} (hg : goodB X = true) (h1 : 1 ≤ sch) (h4 : sch ≤ 4) (hk : sch = 4 → X.k = 1) : badW X (sch : Int) = false := by
  simp only [badW, Bool.or_eq_false_iff, Bool.not_eq_false', decide_eq_false_iff_not]
  refine ⟨⟨⟨hg, ?_⟩, ?_⟩, ?_⟩
  · omega
  · omega
  · rcases good_kind hg with h | h
    · rw [h]
      have : ((1 : Int) == 2) = false := rfl
      simp [this]
    · have : ¬ sch = 4 := fun e => by rw [hk e] at h; cases h
      have : ((sch : Int) == 4) = false := by simp; omega
      simp [this]
/-- What is read is written back by the document. -/
theorem read_written {s : ByteArray} {sch : Nat} {kind : Int} {xs : List Val} (h : columnD s.data.toList = some (sch, kind, xs)) {t : ByteArray} {f : Int} (hw : RW (laidV kind xs) (sch : Int) t f) : f = 0 ∧ t = s := by
  obtain ⟨e0, hall⟩ := read_col h
  obtain ⟨b, hk, hlen, h1, h4, h41, hb, hl, hf, h0⟩ := columnD_forth h
  obtain ⟨g1, g2, g3, g4, g5, g6, g7, g8⟩ := from_ok e0
  have ec : xs.map cleanV = xs := by
    conv => rhs; rw [← List.map_id xs]
    exact List.map_congr_left fun y hy => (hall y hy).1
  rw [ec] at g3
  have hns : ∀ n ∈ (laidV kind xs).ns, In63 n := fun n hn => in63_ok (g8 (fun x hx => (hall x hx).2) n hn)
  have hp : PW (laidV kind xs) (sch : Int) s 0 := by
    refine .inr (.inr ⟨good_bad g1 h1 h4 (fun e => by rw [g2]; exact h41 e), by rw [g5]; exact hlen, rfl, b, by rw [g3, Int.toNat_natCast]; exact hb, ?_⟩)
    rw [g2, g3, Int.toNat_natCast]
    have e2 : s.data.toList = (toB (headB sch kind.toNat xs ++ b)).data.toList := by rw [toB_list, hl]
    have e3 : s.data = (toB (headB sch kind.toNat xs ++ b)).data := by
      rw [← Array.toArray_toList (xs := s.data), e2, Array.toArray_toList]
    cases s with
    | mk d => simp only at e3; rw [e3]
  obtain ⟨e1, e2⟩ := same_write hns hp hw
  exact ⟨e2, e1⟩
end Go.Proofs.YthbfomcmjjnikaaGreat

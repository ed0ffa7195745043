import Derived.Test.YthbfomcmjjnikaaGreatVecL
set_option linter.unusedSimpArgs false
set_option linter.unusedVariables false
namespace Go.Proofs.YthbfomcmjjnikaaGreat
open Go.RowKit Go.Sort
theorem box4_alloc (w : World) (a b c d : Value) : (w.alloc (.cells #[a, b, c, d] 49)).rowIs w.heap.size 49 4 (box4 a b c d) := World.rowIs_alloc w _ 49 _ (box4_arr _ _ _ _)

def boxV (w : World) (X : Vc) (p : Sl) : World := w.alloc (.cells #[.int .i64 X.k, .slice p.a1 X.nl.length p.c1, .slice p.a2 X.ns.length p.c2, .slice p.a3 X.ss.length p.c3] 49)
theorem boxV_facts {w w' : World} {X : Vc} {p : Sl} (h : Below (boxV w X p).heap.size (boxV w X p) w') :
    (w'.cell? ⟨w.heap.size, 0, none⟩ = some (.int .i64 X.k) ∧ w'.cell? ⟨w.heap.size, 1, none⟩ = some (.slice p.a1 X.nl.length p.c1) ∧ w'.cell? ⟨w.heap.size, 2, none⟩ = some (.slice p.a2 X.ns.length p.c2) ∧ w'.cell? ⟨w.heap.size, 3, none⟩ = some (.slice p.a3 X.ss.length p.c3)) ∧ Below w.heap.size w w' ∧ w.heap.size < w'.heap.size := by
  have hr := rowIs_later (box4_alloc w (.int .i64 X.k) (.slice p.a1 X.nl.length p.c1) (.slice p.a2 X.ns.length p.c2) (.slice p.a3 X.ss.length p.c3)) h
  obtain ⟨r0, r1, r2, r3, _⟩ := box_facts hr
  exact ⟨⟨r0, r1, r2, r3⟩, below_one h, hr.lt⟩

theorem goodN_of {X : Vc} (k1 : (X.k == 1) = true) (z : X.ss.length = 0) (e : X.ns.length = X.nl.length) : goodB X = !(X.nl.zip X.ns).any badN := by simp [goodB, k1, z, znN, e]
theorem goodN_no1 {X : Vc} (k1 : (X.k == 1) = true) (e : X.ns.length ≠ X.nl.length) : goodB X = false := by
  simp only [goodB, k1, if_true, znN]
  rw [beq_false_of_ne (fun h => e h.symm)]; simp
theorem goodN_no2 {X : Vc} (k1 : (X.k == 1) = true) (z : X.ss.length ≠ 0) : goodB X = false := by
  simp only [goodB, k1, if_true]
  rw [beq_false_of_ne z]; rfl

set_option maxHeartbeats 4000000 in
theorem rgood_int (X : Vc) (p : Sl) (w : World) (hs : small X) (hp : VecAt w X p) (k1 : (X.k == 1) = true) :
    Calls Tryz.prog 68 #[vecV X p] w fun e w' => e = .returned (.bool (goodB X)) ∧ Below w.heap.size w w' := by
  rw [vecV_open]
  obtain ⟨l1, l2, l3⟩ := hs
  have k2 : (X.k == 2) = false := by have := beq_iff_eq.1 k1; rw [this]; rfl
  have k3 : (X.k != 1) = false := by simpa using k1
  by_cases e1 : X.ns.length = X.nl.length
  · by_cases z : X.ss.length = 0
    · have HG := hide (goodN_of k1 z e1)
      have z' : ((X.ss.length : Int) != 0) = false := by simp [z]
      have e1' : ((X.ns.length : Int) != (X.nl.length : Int)) = false := by simp [e1]
      have HZL : Hid ((X.nl.zip X.ns).length = X.nl.length) := by show _ = _; simp [e1]
      have HNS := hide e1
      have HP := hide hp
      obtain ⟨W1, hW1⟩ : ∃ W1, W1 = boxV w X p := ⟨_, rfl⟩
      have HW1 := hide hW1
      obtain ⟨⟨r0, r1, r2, r3⟩, hbw, hzw⟩ := boxV_facts (Below.refl (boxV w X p).heap.size (boxV w X p))
      rw [← hW1] at r0 r1 r2 r3 hbw hzw
      have HBW := hide hbw
      generalize goodB X = G at HG ⊢
      clear z e1 hp hbw
      go_enter Tryz.func68, Tryz.ntmps68
      go_wp2_with fail
      go_loopw [40] (fun i wr => ∃ k : Nat, k ≤ X.nl.length ∧ i = .int .i64 k ∧ Hid (∀ i y, i < k → (X.nl.zip X.ns)[i]? = some y → badN y = false) ∧ wr = W1) (fun i _ => X.nl.length - (intOf i).toNat)
      case atStart => exact ⟨0, Nat.zero_le _, rfl, fun i y h => by omega, hW1.symm⟩
      case round =>
        clear hW1
        obtain ⟨k, hk, rfl, HN, rfl⟩ := hrel
        by_cases h1 : k < X.nl.length
        · obtain ⟨b, hb⟩ : ∃ b, X.nl[k]? = some b := ⟨_, List.getElem?_eq_getElem h1⟩
          obtain ⟨m, hm⟩ : ∃ m, X.ns[k]? = some m := ⟨_, List.getElem?_eq_getElem (by rw [unhide HNS]; exact h1)⟩
          obtain ⟨pb, po, ea, cp⟩ := ((unhide HP).later (unhide HBW)).1.get (k := k) (x := .bool b) (by simp [hb])
          obtain ⟨qb, qo, eb, cq⟩ := ((unhide HP).later (unhide HBW)).2.1.get (k := k) (x := .int .i64 m) (by simp [hm])
          rw [ea] at r1
          rw [eb] at r2
          have HS := hide (zip_get hb hm)
          have i1 : (k : Int) < (X.nl.length : Int) := by omega
          have i2 : (k : Int) < (X.ns.length : Int) := by rw [unhide HNS]; exact i1
          clear hb hm ea eb
          cases b
          · have HQ := hide (stepG (unhide HN) (unhide HS) (by simp [badN]))
            go_wp2
            go_roundw
            case rel => exact ⟨k + 1, by omega, by go_num, HQ, by first | rfl | trivial⟩
            case measure => simp [intOf]; omega
          · rcases Bool.eq_false_or_eq_true (m != 0) with em | em
            · have HE : Hid (G = false) := by show _ = _; rw [unhide HG, hitG (unhide HS) (by simpa [badN] using em)]; rfl
              go_wp2
              go_ret
              exact ⟨by rw [unhide HE]; rfl, unhide HBW⟩
            · have HQ := hide (stepG (unhide HN) (unhide HS) (by simpa [badN] using em))
              go_wp2
              go_roundw
              case rel => exact ⟨k + 1, by omega, by go_num, HQ, by first | rfl | trivial⟩
              case measure => simp [intOf]; omega
        · have i1 : ¬ (k : Int) < (X.nl.length : Int) := by omega
          have HE : Hid (G = true) := by
            show _ = _
            have e : k = X.nl.length := by omega
            rw [unhide HG, noneG (by rw [unhide HZL, ← e]; exact unhide HN)]; rfl
          go_wp2
          go_ret
          exact ⟨by rw [unhide HE]; rfl, unhide HBW⟩
    · have z' : ((X.ss.length : Int) != 0) = true := by simp; intro e; exact z (by rw [e]; rfl)
      have e1' : ((X.ns.length : Int) != (X.nl.length : Int)) = false := by simp [e1]
      have HE := hide (goodN_no2 k1 z)
      generalize goodB X = G at HE ⊢
      clear z e1 hp
      go_enter Tryz.func68, Tryz.ntmps68
      go_wp2
      go_ret
      exact ⟨by rw [unhide HE]; rfl, below_alloc (Below.refl _ _) _⟩
  · have e1' : ((X.ns.length : Int) != (X.nl.length : Int)) = true := by simp; omega
    have HE := hide (goodN_no1 k1 e1)
    generalize goodB X = G at HE ⊢
    clear e1 hp
    go_enter Tryz.func68, Tryz.ntmps68
    go_wp2
    go_ret
    exact ⟨by rw [unhide HE]; rfl, below_alloc (Below.refl _ _) _⟩

def badT (p : Bool × ByteArray) : Bool := badS p || largeB p.2
theorem badT_any {nl : List Bool} {ss : List ByteArray} (e : nl.length = ss.length) : (nl.zip ss).any badT = ((nl.zip ss).any badS || ss.any largeB) := by
  have h : ss.any largeB = (nl.zip ss).any (fun p => largeB p.2) := by
    have : (nl.zip ss).map Prod.snd = ss := List.map_snd_zip (by omega)
    conv => lhs; rw [← this, List.any_map]
    rfl
  rw [h]
  induction nl.zip ss with
  | nil => rfl
  | cons p l ih => simp only [List.any_cons, ih, badT]; cases badS p <;> cases largeB p.2 <;> simp
theorem goodT_of {X : Vc} (k1 : (X.k == 1) = false) (k2 : (X.k == 2) = true) (z : X.ns.length = 0) (e : X.ss.length = X.nl.length) : goodB X = !(X.nl.zip X.ss).any badT := by
  rw [badT_any e.symm]
  simp [goodB, k1, k2, z, znS, e]
theorem goodT_no1 {X : Vc} (k1 : (X.k == 1) = false) (k2 : (X.k == 2) = true) (e : X.ss.length ≠ X.nl.length) : goodB X = false := by
  simp only [goodB, k1, k2, if_true, znS]
  rw [beq_false_of_ne (fun h => e h.symm)]; simp
theorem goodT_no2 {X : Vc} (k1 : (X.k == 1) = false) (k2 : (X.k == 2) = true) (z : X.ns.length ≠ 0) : goodB X = false := by
  simp only [goodB, k1, k2, if_true]
  rw [beq_false_of_ne z]; simp

set_option maxHeartbeats 4000000 in
set_option maxRecDepth 100000 in
theorem rgood_text (X : Vc) (p : Sl) (w : World) (hs : small X) (hp : VecAt w X p) (k1 : (X.k == 2) = true) :
    Calls Tryz.prog 68 #[vecV X p] w fun e w' => e = .returned (.bool (goodB X)) ∧ Below w.heap.size w w' := by
  rw [vecV_open]
  obtain ⟨l1, l2, l3⟩ := hs
  have k2 : (X.k == 1) = false := by have := beq_iff_eq.1 k1; rw [this]; rfl
  have k3 : (X.k != 1) = true := by simpa using k2
  have k4 : (X.k != 2) = false := by simpa using k1
  have HP := hide hp
  clear hp
  generalize hGX : goodB X = G
  have HGX := hide hGX
  clear hGX
  obtain ⟨W1, hW1⟩ : ∃ W1, W1 = boxV w X p := ⟨_, rfl⟩
  obtain ⟨⟨r0, r1, r2, r3⟩, hbw, hzw⟩ := boxV_facts (Below.refl (boxV w X p).heap.size (boxV w X p))
  go_enter Tryz.func68, Tryz.ntmps68
  go_upto_region 3 with fail
  change Code.wp _ _ _ _ (boxV w X p)
  have q1 := cell_regrown r1
  refine wp_region_quiet_below (by kernel_rfl) (by kernel_rfl) ?_
  repeat (go_big_quiet_step (fail))
  refine wpQuiet_nil ?_
  intro w' hw'
  have hB2 : Below (boxV w X p).heap.size (boxV w X p) w' := by obtain ⟨p, rfl⟩ := hw'; exact below_regrown _ _ _
  clear hw' r0 r1 r2 r3 hbw hzw q1 hW1 W1
  obtain ⟨⟨r0, r1, r2, r3⟩, hbw, hzw⟩ := boxV_facts hB2
  have HBW := hide hbw
  clear hbw
  obtain ⟨W1, rfl⟩ : ∃ W1, W1 = w' := ⟨_, rfl⟩
  by_cases z : X.ns.length = 0
  · by_cases e1 : X.ss.length = X.nl.length
    · have HG : Hid (G = !(X.nl.zip X.ss).any badT) := by show _ = _; rw [← unhide HGX]; exact goodT_of k2 k1 z e1
      have z' : ((X.ns.length : Int) != 0) = false := by simp [z]
      have e1' : ((X.ss.length : Int) != (X.nl.length : Int)) = false := by simp [e1]
      have HZL : Hid ((X.nl.zip X.ss).length = X.nl.length) := by show _ = _; simp [e1]
      have HNS := hide e1
      clear z e1
      go_wp2_with fail
      go_loopw [40] (fun i wr => ∃ k : Nat, k ≤ X.nl.length ∧ i = .int .i64 k ∧ Hid (∀ i y, i < k → (X.nl.zip X.ss)[i]? = some y → badT y = false) ∧ wr = W1) (fun i _ => X.nl.length - (intOf i).toNat)
      case atStart => exact ⟨0, Nat.zero_le _, rfl, fun i y h => by omega, rfl⟩
      case round =>
        obtain ⟨k, hk, rfl, HN, rfl⟩ := hrel
        by_cases h1 : k < X.nl.length
        · obtain ⟨b, hb⟩ : ∃ b, X.nl[k]? = some b := ⟨_, List.getElem?_eq_getElem h1⟩
          obtain ⟨m, hm⟩ : ∃ m, X.ss[k]? = some m := ⟨_, List.getElem?_eq_getElem (by rw [unhide HNS]; exact h1)⟩
          obtain ⟨pb, po, ea, cp⟩ := ((unhide HP).later (unhide HBW)).1.get (k := k) (x := .bool b) (by simp [hb])
          obtain ⟨qb, qo, eb, cq⟩ := ((unhide HP).later (unhide HBW)).2.2.get (k := k) (x := .string m) (by simp [hm])
          rw [ea] at r1
          rw [eb] at r3
          have HS := hide (zip_get hb hm)
          have i1 : (k : Int) < (X.nl.length : Int) := by omega
          have i2 : (k : Int) < (X.ss.length : Int) := by rw [unhide HNS]; exact i1
          clear hb hm ea eb
          by_cases hL : (1000 : Int) < (m.size : Int)
          · have HE : Hid (G = false) := by show _ = _; rw [unhide HG, hitG (unhide HS) (by simp only [badT, largeB]; simp [hL])]; rfl
            cases b
            · go_wp2
              go_ret
              exact ⟨by rw [unhide HE]; rfl, unhide HBW⟩
            · rcases Bool.eq_false_or_eq_true (!m.toList.isEmpty) with em | em
              · go_wp2
                go_ret
                exact ⟨by rw [unhide HE]; rfl, unhide HBW⟩
              · go_wp2
                go_ret
                exact ⟨by rw [unhide HE]; rfl, unhide HBW⟩
          · have eL : largeB m = false := by simpa [largeB] using hL
            cases b
            · have HQ := hide (stepG (unhide HN) (unhide HS) (by simp only [badT, badS, eL]; rfl))
              go_wp2
              go_roundw
              case rel => exact ⟨k + 1, by omega, by go_num, HQ, by first | rfl | trivial⟩
              case measure => simp [intOf]; omega
            · rcases Bool.eq_false_or_eq_true (!m.toList.isEmpty) with em | em
              · have HE : Hid (G = false) := by show _ = _; rw [unhide HG, hitG (unhide HS) (by simp only [badT, badS, em]; rfl)]; rfl
                go_wp2
                go_ret
                exact ⟨by rw [unhide HE]; rfl, unhide HBW⟩
              · have HQ := hide (stepG (unhide HN) (unhide HS) (by simp only [badT, badS, eL, em]; rfl))
                go_wp2
                go_roundw
                case rel => exact ⟨k + 1, by omega, by go_num, HQ, by first | rfl | trivial⟩
                case measure => simp [intOf]; omega
        · have i1 : ¬ (k : Int) < (X.nl.length : Int) := by omega
          have HE : Hid (G = true) := by
            show _ = _
            have e : k = X.nl.length := by omega
            rw [unhide HG, noneG (by rw [unhide HZL, ← e]; exact unhide HN)]; rfl
          go_wp2
          go_ret
          exact ⟨by rw [unhide HE]; rfl, unhide HBW⟩
    · have z' : ((X.ns.length : Int) != 0) = false := by simp [z]
      have e1' : ((X.ss.length : Int) != (X.nl.length : Int)) = true := by simp; omega
      have HE : Hid (G = false) := by show _ = _; rw [← unhide HGX]; exact goodT_no1 k2 k1 e1
      clear z e1
      go_wp2
      go_ret
      exact ⟨by rw [unhide HE]; rfl, unhide HBW⟩
  · have z' : ((X.ns.length : Int) != 0) = true := by simp; intro e; exact z (by rw [e]; rfl)
    have HE : Hid (G = false) := by show _ = _; rw [← unhide HGX]; exact goodT_no2 k2 k1 z
    clear z
    go_wp2
    go_ret
    exact ⟨by rw [unhide HE]; rfl, unhide HBW⟩

set_option maxHeartbeats 1000000 in
theorem rgood_other (X : Vc) (p : Sl) (w : World) (k1 : (X.k == 1) = false) (k2 : (X.k == 2) = false) :
    Calls Tryz.prog 68 #[vecV X p] w fun e w' => e = .returned (.bool (goodB X)) ∧ Below w.heap.size w w' := by
  rw [vecV_open]
  have k3 : (X.k != 1) = true := by simpa using k1
  have k4 : (X.k != 2) = true := by simpa using k2
  have HE : Hid (goodB X = false) := by show _ = _; simp [goodB, k1, k2]
  generalize goodB X = G at HE ⊢
  go_enter Tryz.func68, Tryz.ntmps68
  go_wp2
  go_ret
  exact ⟨by rw [unhide HE]; rfl, below_alloc (Below.refl _ _) _⟩
theorem rgood_any (X : Vc) (p : Sl) (w : World) (hs : small X) (hp : VecAt w X p) :
    Calls Tryz.prog 68 #[vecV X p] w fun e w' => e = .returned (.bool (goodB X)) ∧ Below w.heap.size w w' := by
  rcases Bool.eq_false_or_eq_true (X.k == 1) with k1 | k1
  · exact rgood_int X p w hs hp k1
  · rcases Bool.eq_false_or_eq_true (X.k == 2) with k2 | k2
    · exact rgood_text X p w hs hp k2
    · exact rgood_other X p w k1 k2
end Go.Proofs.YthbfomcmjjnikaaGreat
set_option linter.unusedSimpArgs false
set_option linter.unusedVariables false
namespace Go.Proofs.YthbfomcmjjnikaaGreat
open Go.RowKit Go.Sort

def atV (X : Vc) (i : Nat) : Val := if X.nl.getD i false then .null else if X.k == 1 then .num (X.ns.getD i 0) else .str (X.ss.getD i ⟨#[]⟩)
def valsV (X : Vc) : List Val := if goodB X then (List.range X.nl.length).map (atV X) else []
theorem vals_at {X : Vc} (hg : goodB X = true) {i : Nat} (hi : i < X.nl.length) : (valsV X)[i]? = some (atV X i) := by simp [valsV, hg, hi]
theorem vals_len {X : Vc} (hg : goodB X = true) : (valsV X).length = X.nl.length := by simp [valsV, hg]
theorem vals_none {X : Vc} (hg : goodB X = false) : valsV X = [] := by simp [valsV, hg]
theorem vals_le (X : Vc) : (valsV X).length ≤ X.nl.length := by
  cases h : goodB X
  · rw [vals_none h]; simp
  · rw [vals_len h]; exact Nat.le_refl _
theorem good_kinds {X : Vc} (hg : goodB X = true) : ((X.k == 1) = true ∧ X.ns.length = X.nl.length) ∨ ((X.k == 1) = false ∧ (X.k == 2) = true ∧ X.ss.length = X.nl.length) := by
  unfold goodB at hg
  rcases Bool.eq_false_or_eq_true (X.k == 1) with k1 | k1
  · rw [k1] at hg
    simp [znN] at hg
    exact .inl ⟨k1, hg.2.1.symm⟩
  · rcases Bool.eq_false_or_eq_true (X.k == 2) with k2 | k2
    · rw [k1, k2] at hg
      simp [znS] at hg
      exact .inr ⟨k1, k2, hg.1.2.1.symm⟩
    · rw [k1, k2] at hg; simp at hg

set_option maxHeartbeats 1000000 in
theorem at_any (X : Vc) (p : Sl) (w : World) (hs : small X) (hg : goodB X = true) (hp : VecAt w X p) (i : Nat) (hi : i < X.nl.length) :
    Calls Tryz.prog 73 #[vecV X p, .int .i64 i] w fun e w' => e = .returned (atV X i).v ∧ Below w.heap.size w w' := by
  rw [vecV_open]
  obtain ⟨l1, l2, l3⟩ := hs
  obtain ⟨b, hb⟩ : ∃ b, X.nl[i]? = some b := ⟨_, List.getElem?_eq_getElem hi⟩
  obtain ⟨pb, po, ea, cp⟩ := hp.1.get (k := i) (x := .bool b) (by simp [hb])
  rw [ea]
  have i1 : (i : Int) < (X.nl.length : Int) := by omega
  have hbl := World.block_lt_of_cell? _ _ cp
  simp only at hbl
  cases b
  · rcases good_kinds hg with ⟨k1, e1⟩ | ⟨k1, k2, e1⟩
    · obtain ⟨m, hm⟩ : ∃ m, X.ns[i]? = some m := ⟨_, List.getElem?_eq_getElem (by omega)⟩
      obtain ⟨qb, qo, eb, cq⟩ := hp.2.1.get (k := i) (x := .int .i64 m) (by simp [hm])
      rw [eb]
      have i2 : (i : Int) < (X.ns.length : Int) := by omega
      have hbl2 := World.block_lt_of_cell? _ _ cq
      simp only at hbl2
      have HV : Hid (atV X i = .num m) := by show _ = _; simp [atV, hb, k1, hm]
      generalize atV X i = V at HV ⊢
      clear ea eb hb hm hp hg e1
      go_enter Tryz.func73, Tryz.ntmps73
      go_wp2
      refine bodyPost_ret (v := (Val.num m).v) (by simp [results, Tryz.results73, go_sem, Val.v, Val.num]) rfl ⟨by rw [unhide HV], ?_⟩
      (repeat (first | exact Below.refl _ _ | refine Below.alloc ?_ (by simp <;> omega) _ | refine Below.setCell ?_ (by simp <;> omega) _))
    · obtain ⟨m, hm⟩ : ∃ m, X.ss[i]? = some m := ⟨_, List.getElem?_eq_getElem (by omega)⟩
      obtain ⟨qb, qo, eb, cq⟩ := hp.2.2.get (k := i) (x := .string m) (by simp [hm])
      rw [eb]
      have i2 : (i : Int) < (X.ss.length : Int) := by omega
      have hbl2 := World.block_lt_of_cell? _ _ cq
      simp only at hbl2
      have HV : Hid (atV X i = .str m) := by show _ = _; simp [atV, hb, k1, hm]
      generalize atV X i = V at HV ⊢
      clear ea eb hb hm hp hg e1
      go_enter Tryz.func73, Tryz.ntmps73
      go_wp2
      refine bodyPost_ret (v := (Val.str m).v) (by simp [results, Tryz.results73, go_sem, Val.v, Val.str]) rfl ⟨by rw [unhide HV], ?_⟩
      (repeat (first | exact Below.refl _ _ | refine Below.alloc ?_ (by simp <;> omega) _ | refine Below.setCell ?_ (by simp <;> omega) _))
  · have HV : Hid (atV X i = .null) := by show _ = _; simp [atV, hb]
    generalize atV X i = V at HV ⊢
    clear ea hb hp hg
    go_enter Tryz.func73, Tryz.ntmps73
    go_wp2
    refine bodyPost_ret (v := Val.null.v) (by simp [results, Tryz.results73, go_sem, Val.v, Val.null]) rfl ⟨by rw [unhide HV], ?_⟩
    (repeat (first | exact Below.refl _ _ | refine Below.alloc ?_ (by simp <;> omega) _ | refine Below.setCell ?_ (by simp <;> omega) _))

set_option maxHeartbeats 1000000 in
theorem len_any (X : Vc) (p : Sl) (w : World) (hs : small X) (hp : VecAt w X p) :
    Calls Tryz.prog 56 #[vecV X p] w fun e w' => e = .returned (.int .i64 ((valsV X).length : Nat)) ∧ Below w.heap.size w w' := by
  have HG : Hid (∀ w', Below w.heap.size w w' → Calls Tryz.prog 72 #[vecV X p] w' fun e w'' => e = .returned (.bool (goodB X)) ∧ Below w'.heap.size w' w'') := fun w' hb => good_any X p w' hs (hp.later hb)
  have HV : Hid ((valsV X).length = if goodB X then X.nl.length else 0) := by
    show _ = _
    cases h : goodB X
    · simp [vals_none h]
    · simp [vals_len h]
  obtain ⟨l1, l2, l3⟩ := hs
  generalize (valsV X).length = N at HV ⊢
  generalize goodB X = G at HV HG
  rw [vecV_open]
  clear hp
  cases G
  · have HE : Hid (N = 0) := unhide HV
    go_enter Tryz.func56, Tryz.ntmps56
    go_wp2_with (go_at_call 72; refine (unhide HG _ (below_alloc (Below.refl _ _) _)).mono ?_; rintro e w1 ⟨rfl, hb1⟩)
    go_ret
    exact ⟨by rw [unhide HE]; rfl, below_one hb1⟩
  · have HE : Hid (N = X.nl.length) := unhide HV
    go_enter Tryz.func56, Tryz.ntmps56
    go_wp2_with (go_at_call 72; refine (unhide HG _ (below_alloc (Below.refl _ _) _)).mono ?_; rintro e w1 ⟨rfl, hb1⟩; obtain ⟨⟨r0, r1, r2, r3⟩, hbb, hzz⟩ := boxV_facts hb1)
    go_ret
    exact ⟨by rw [unhide HE]; rfl, hbb⟩
end Go.Proofs.YthbfomcmjjnikaaGreat
set_option linter.unusedSimpArgs false
set_option linter.unusedVariables false
namespace Go.Proofs.YthbfomcmjjnikaaGreat
open Go.RowKit Go.Sort

def c3 (x : Val) : List Value := [.int .i64 x.k, .int .i64 x.n, .string x.s]
/-- The slice of values v, a row of the call's own, holds xs. -/
def OwnV (w : World) (base : Nat) (v : Value) (xs : List Val) : Prop := w.ownsRow base 59 3 v xs.length (xs.flatMap c3)
theorem ownV_app {w : World} {base : Nat} {v : Value} {ys : List Val} {x : Val} (h : w.ownsRow base 59 3 v (ys.length + 1) (ys.flatMap c3 ++ c3 x)) : OwnV w base v (ys ++ [x]) := by
  unfold OwnV
  rw [List.length_append, List.flatMap_append]
  simpa using h
theorem OwnV.later {w w1 : World} {base : Nat} {v : Value} {xs : List Val} (h : OwnV w base v xs) (hb : Below w.heap.size w w1) : OwnV w1 base v xs := own_later h hb
theorem flat_at : ∀ (zs : List Val) (i j : Nat) (x : Val), zs[i]? = some x → j < 3 → (zs.flatMap c3)[i * 3 + j]? = (c3 x)[j]?
  | [], i, j, x, h, _ => by simp at h
  | z :: zs, 0, j, x, h, hj => by
    simp at h
    subst h
    rw [List.flatMap_cons, List.getElem?_append_left (by simp [c3]; omega)]
    simp
  | z :: zs, i + 1, j, x, h, hj => by
    have ih := flat_at zs i j x (by simpa using h) hj
    rw [List.flatMap_cons, List.getElem?_append_right (by simp [c3]; omega)]
    rw [← ih]
    congr 1
    simp [c3]
    omega
theorem flat_len (zs : List Val) : (zs.flatMap c3).length = zs.length * 3 := by
  induction zs with
  | nil => rfl
  | cons z zs ih => rw [List.flatMap_cons, List.length_append, ih]; simp [c3]; omega
theorem ownV_row {w : World} {base : Nat} {v : Value} {zs : List Val} (h : OwnV w base v zs) : ∃ a cap, v = .slice a zs.length cap ∧ RowAt w a zs := by
  rcases h.2 with ⟨rfl, h0⟩ | ⟨g, cap, cur, rfl, _⟩
  · have : zs = [] := List.eq_nil_of_length_eq_zero h0
    subst this
    exact ⟨none, 0, rfl, .inl rfl⟩
  · refine ⟨_, cap, rfl, .inr ⟨g, 0, rfl, fun i x hx => ?_⟩⟩
    have hc := World.ownsRow.cells h rfl
    have ea : ∀ n : Nat, (⟨g, 0, none⟩ : Addr).add n = ⟨g, 0 + n, none⟩ := by
      intro n
      by_cases h : n = 0 <;> simp [Addr.add, h]
    have e0 := hc (i * 3 + 0) _ (flat_at zs i 0 x hx (by omega))
    have e1 := hc (i * 3 + 1) _ (flat_at zs i 1 x hx (by omega))
    have e2 := hc (i * 3 + 2) _ (flat_at zs i 2 x hx (by omega))
    rw [ea] at e0 e1 e2
    exact ⟨by simpa using e0, by simpa [Nat.add_assoc] using e1, by simpa [Nat.add_assoc] using e2⟩
theorem own_of_row {w : World} {base g n : Nat} {F : Nat → Value} {ys : List Val} (h : w.rowIs g 59 (n * 3) F) (hl : ys.length = n) (hh : Holds3 F n ys) (hb : base ≤ g) (hn : n ≤ maxLen) : OwnV w base (.slice (some ⟨g, 0, none⟩) n n) ys := by
  subst hl
  obtain ⟨c, hc, hs, hf⟩ := h
  refine ⟨flat_len ys, .inr ⟨g, ys.length, c, rfl, hb, hc, Nat.le_refl _, hn, hs, ?_⟩⟩
  rw [List.take_of_length_le (by simp [hs])]
  apply List.ext_getElem?
  intro j
  by_cases hj : j < ys.length * 3
  · have e : j = (j / 3) * 3 + j % 3 := by omega
    have hx : ys[j / 3]? = some (ys[j / 3]'(by omega)) := List.getElem?_eq_getElem (by omega)
    obtain ⟨f0, f1, f2⟩ := hh (j / 3) _ (by omega) hx
    have hcj : c.toList[j]? = some (F j) := by rw [Array.getElem?_toList]; exact hf j hj
    rw [hcj]
    have hfl := flat_at ys (j / 3) (j % 3) _ hx (by omega)
    rw [← e] at hfl
    rw [hfl]
    have h3 : j % 3 = 0 ∨ j % 3 = 1 ∨ j % 3 = 2 := by omega
    rcases h3 with h3 | h3 | h3
    · rw [h3]; rw [h3, Nat.add_zero] at e; rw [← e] at f0; simp [c3, f0]
    · rw [h3]; rw [h3] at e; rw [← e] at f1; simp [c3, f1]
    · rw [h3]; rw [h3] at e; rw [← e] at f2; simp [c3, f2]
  · rw [List.getElem?_eq_none (by simp [hs]; omega), List.getElem?_eq_none (by rw [flat_len]; omega)]

/-- A column's box and a row of values that is being laid. -/
def PInv (w0 w : World) (B g n k : Nat) (v0 v1 v2 v3 : Value) (ys : List Val) : Prop :=
  Below w0.heap.size w0 w ∧ w.rowIs B 49 4 (box4 v0 v1 v2 v3) ∧ (∃ F, w.rowIs g 59 (n * 3) F ∧ Holds3 F k ys)
theorem PInv.later {w0 w w' : World} {B g n k : Nat} {v0 v1 v2 v3 : Value} {ys : List Val} (h : PInv w0 w B g n k v0 v1 v2 v3 ys) (hb : Below w.heap.size w w') : PInv w0 w' B g n k v0 v1 v2 v3 ys := by
  obtain ⟨hb0, hr, F, hF, hF'⟩ := h
  exact ⟨below_step hb0 hb, rowIs_later hr hb, F, rowIs_later hF hb, hF'⟩
theorem PInv.step {w0 w : World} {B g n k : Nat} {v0 v1 v2 v3 : Value} {ys : List Val} {y : Val} (h : PInv w0 w B g n k v0 v1 v2 v3 ys) (hg : w0.heap.size ≤ g) (hne : B ≠ g) (hy : ys[k]? = some y) :
    PInv w0 (((w.setCell ⟨g, k * 3, none⟩ (.int .i64 y.k)).setCell ⟨g, k * 3 + 1, none⟩ (.int .i64 y.n)).setCell ⟨g, k * 3 + 2, none⟩ (.string y.s)) B g n (k + 1) v0 v1 v2 v3 ys := by
  obtain ⟨hb0, hr, F, hF, hF'⟩ := h
  refine ⟨((hb0.setCell hg _).setCell hg _).setCell hg _, ?_, ⟨_, ?_, hF'.step hy⟩⟩
  · exact ((hr.setOther hne _).setOther hne _).setOther hne _
  · exact ((hF.set _ _).set _ _).set _ _

theorem PInv.start {w0 w1 : World} {B : Nat} {v0 v1 v2 v3 : Value} (hb : Below w0.heap.size w0 w1) (hr : w1.rowIs B 49 4 (box4 v0 v1 v2 v3)) (c : Array Value) (n : Nat) (ys : List Val) : PInv w0 (w1.alloc (.cells (madeCells c (n * 3)) 59)) B w1.heap.size n 0 v0 v1 v2 v3 ys := by
  obtain ⟨F, hF⟩ := rowIs_any w1 (madeCells c (n * 3)) 59
  rw [size_madeCells] at hF
  exact ⟨below_alloc hb _, hr.alloc _, F, hF, Holds3.zero _ _⟩

set_option maxHeartbeats 2000000 in
theorem values_any (X : Vc) (p : Sl) (w : World) (hs : small X) (hp : VecAt w X p) :
    Calls Tryz.prog 100 #[vecV X p] w fun e w' => ∃ v, e = .returned v ∧ OwnV w' w.heap.size v (valsV X) ∧ Below w.heap.size w w' := by
  obtain ⟨i4, hi4, z40, z41, z42⟩ := info_parts Tryz.info59
  have HL : Hid (∀ w', Below w.heap.size w w' → Calls Tryz.prog 56 #[vecV X p] w' fun e w'' => e = .returned (.int .i64 ((valsV X).length : Nat)) ∧ Below w'.heap.size w' w'') := fun w' hb => len_any X p w' hs (hp.later hb)
  have HT : Hid (goodB X = true → ∀ w', Below w.heap.size w w' → ∀ i, i < X.nl.length → Calls Tryz.prog 73 #[vecV X p, .int .i64 i] w' fun e w'' => e = .returned (atV X i).v ∧ Below w'.heap.size w' w'') := fun hg w' hb i hi => at_any X p w' hs hg (hp.later hb) i hi
  have hN : (valsV X).length ≤ 1048576 := Nat.le_trans (vals_le X) hs.1
  obtain ⟨N, hNe⟩ : ∃ N, N = (valsV X).length := ⟨_, rfl⟩
  have HN := hide hNe
  rw [← hNe] at hN HL
  have HA : Hid (∀ i, i < N → (valsV X)[i]? = some (atV X i) ∧ ∀ w', Below w.heap.size w w' → Calls Tryz.prog 73 #[vecV X p, .int .i64 i] w' fun e w'' => e = .returned (atV X i).v ∧ Below w'.heap.size w' w'') := by
    intro i hi
    rw [hNe] at hi
    cases hg : goodB X
    · rw [vals_none hg] at hi; simp at hi
    · rw [vals_len hg] at hi
      exact ⟨vals_at hg hi, fun w' hb => unhide HT hg w' hb i hi⟩
  clear hp HT hNe hs
  rw [vecV_open]
  go_enter Tryz.func100, Tryz.ntmps100
  go_wp2_with (first
    | (go_at_call 56; refine (unhide HL _ (below_alloc (Below.refl _ _) _)).mono ?_; rintro e w1 ⟨rfl, hb1⟩; have hbx := boxV_facts hb1; obtain ⟨⟨r0, r1, r2, r3⟩, hbw, hzw⟩ := hbx)
    | (at_make; refine wpList_make_rows _ rfl (.tmp 6) (.tmp 6) 37 rfl 59 i4 _ Tryz.underlying37 hi4 z40 3 z41 .i64 .i64 N rfl rfl (by rw [z42]; omega) (by omega) ?_)
    | fail)
  have HR := hide (rowIs_later (box4_alloc w _ _ _ _) hb1)
  clear hb1 r0 r1 r2 r3
  go_loopw [10] (fun i wr => ∃ k : Nat, k ≤ N ∧ i = .int .i64 k ∧ PInv w wr w.heap.size w1.heap.size N k (.int .i64 X.k) (.slice p.a1 X.nl.length p.c1) (.slice p.a2 X.ns.length p.c2) (.slice p.a3 X.ss.length p.c3) (valsV X)) (fun i _ => N - (intOf i).toNat)
  case atStart => exact ⟨0, Nat.zero_le _, rfl, PInv.start hbw (unhide HR) _ _ _⟩
  case round =>
    obtain ⟨k, hk, rfl, hI⟩ := hrel
    have HI := hide hI
    obtain ⟨hb, hr, F, hF, hF'⟩ := hI
    by_cases h1 : k < N
    · obtain ⟨r0, r1, r2, r3, _⟩ := box_facts hr
      obtain ⟨hv, hat⟩ := unhide HA k h1
      have HV := hide hv
      have HT := hide (hat wr hb)
      generalize atV X k = y at HV HT
      have HF := hide hF
      have hg := hF.lt
      have i1 : (k : Int) < (N : Int) := by omega
      clear hr hF hF' hb hv hat
      go_wp2_with (go_at_call 73; refine (unhide HT).mono ?_; rintro e w2 ⟨rfl, hb2⟩; rw [Val.open_]; obtain ⟨p0, p1, p2, q0, q1, q2⟩ := three (k := k) (rowIs_later (unhide HF) hb2) (by omega))
      go_roundw
      case rel => exact ⟨k + 1, by omega, by go_num, ((unhide HI).later hb2).step (by omega) (by omega) (unhide HV)⟩
      case measure => simp [intOf]; omega
    · have i1 : ¬ (k : Int) < (N : Int) := by omega
      have HE : Hid (OwnV wr w.heap.size (.slice (some ⟨w1.heap.size, 0, none⟩) N N) (valsV X)) := by
        have e : k = N := by omega
        rw [e] at hF'
        exact own_of_row hF (unhide HN).symm hF' (by omega) (by unfold maxLen; omega)
      clear hF hF' hr
      go_wp2
      go_ret
      exact ⟨_, rfl, unhide HE, hb⟩
end Go.Proofs.YthbfomcmjjnikaaGreat

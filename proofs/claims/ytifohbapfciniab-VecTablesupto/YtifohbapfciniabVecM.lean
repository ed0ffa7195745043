import Derived.Test.YtifohbapfciniabVecL
import Derived.Test.YtifohbapfciniabMakesLaw
set_option linter.unusedSimpArgs false
set_option linter.unusedVariables false
namespace Go.Proofs.Ytifohbapfciniab
open Go.RowKit Go.Sort

def boxV (w : World) (X : Vc) (p : Sl) : World := w.alloc (.cells #[.int .i64 X.k, .slice p.a1 X.nl.length p.c1, .slice p.a2 X.ns.length p.c2, .slice p.a3 X.ss.length p.c3] 27)
theorem boxV_facts {w w' : World} {X : Vc} {p : Sl} (h : Below (boxV w X p).heap.size (boxV w X p) w') :
    (w'.cell? ⟨w.heap.size, 0, none⟩ = some (.int .i64 X.k) ∧ w'.cell? ⟨w.heap.size, 1, none⟩ = some (.slice p.a1 X.nl.length p.c1) ∧ w'.cell? ⟨w.heap.size, 2, none⟩ = some (.slice p.a2 X.ns.length p.c2) ∧ w'.cell? ⟨w.heap.size, 3, none⟩ = some (.slice p.a3 X.ss.length p.c3)) ∧ Below w.heap.size w w' ∧ w.heap.size < w'.heap.size := by
  have hr := rowIs_later (box4_alloc w (.int .i64 X.k) (.slice p.a1 X.nl.length p.c1) (.slice p.a2 X.ns.length p.c2) (.slice p.a3 X.ss.length p.c3)) h
  obtain ⟨r0, r1, r2, r3, _⟩ := box_facts hr
  exact ⟨⟨r0, r1, r2, r3⟩, below_one h, hr.lt⟩

theorem goodN_of {X : Vc} (k1 : (X.k == 1) = true) (z : X.ss.length = 0) (e : X.ns.length = X.nl.length) : goodB X = !(X.nl.zip X.ns).any badN := by simp [goodB, k1, z, znN, e]
theorem goodN_no1 {X : Vc} (k1 : (X.k == 1) = true) (e : X.ns.length ≠ X.nl.length) : goodB X = false := by
  simp only [goodB, k1, if_true, znN]
  rw [beq_false_of_ne (fun h => e h.symm)]; simp
theorem goodN_no2 {X : Vc} (k1 : (X.k == 1) = true) (z : X.ss.length ≠ 0) : goodB X = false := by
  simp only [goodB, k1, if_true]
  rw [beq_false_of_ne z]; rfl

set_option maxHeartbeats 4000000 in
theorem rgood_int (X : Vc) (p : Sl) (w : World) (hs : small X) (hp : VecAt w X p) (k1 : (X.k == 1) = true) :
    Calls Try.prog 10 #[vecV X p] w fun e w' => e = .returned (.bool (goodB X)) ∧ Below w.heap.size w w' := by
  rw [vecV_open]
  obtain ⟨l1, l2, l3⟩ := hs
  have k2 : (X.k == 2) = false := by have := beq_iff_eq.1 k1; rw [this]; rfl
  have k3 : (X.k != 1) = false := by simpa using k1
  by_cases e1 : X.ns.length = X.nl.length
  · by_cases z : X.ss.length = 0
    · have HG := hide (goodN_of k1 z e1)
      have z' : ((X.ss.length : Int) != 0) = false := by simp [z]
      have e1' : ((X.ns.length : Int) != (X.nl.length : Int)) = false := by simp [e1]
      have HZL : Hid ((X.nl.zip X.ns).length = X.nl.length) := by show _ = _; simp [e1]
      have HNS := hide e1
      have HP := hide hp
      obtain ⟨W1, hW1⟩ : ∃ W1, W1 = boxV w X p := ⟨_, rfl⟩
      have HW1 := hide hW1
      obtain ⟨⟨r0, r1, r2, r3⟩, hbw, hzw⟩ := boxV_facts (Below.refl (boxV w X p).heap.size (boxV w X p))
      rw [← hW1] at r0 r1 r2 r3 hbw hzw
      have HBW := hide hbw
      generalize goodB X = G at HG ⊢
      clear z e1 hp hbw
      go_enter Try.func10, Try.ntmps10
      go_wp2_with fail
      go_loopw [40] (fun i wr => ∃ k : Nat, k ≤ X.nl.length ∧ i = .int .i64 k ∧ Hid (∀ i y, i < k → (X.nl.zip X.ns)[i]? = some y → badN y = false) ∧ wr = W1) (fun i _ => X.nl.length - (intOf i).toNat)
      case atStart => exact ⟨0, Nat.zero_le _, rfl, fun i y h => by omega, hW1.symm⟩
      case round =>
        clear hW1
        obtain ⟨k, hk, rfl, HN, rfl⟩ := hrel
        by_cases h1 : k < X.nl.length
        · obtain ⟨b, hb⟩ : ∃ b, X.nl[k]? = some b := ⟨_, List.getElem?_eq_getElem h1⟩
          obtain ⟨m, hm⟩ : ∃ m, X.ns[k]? = some m := ⟨_, List.getElem?_eq_getElem (by rw [unhide HNS]; exact h1)⟩
          obtain ⟨pb, po, ea, cp⟩ := ((unhide HP).later (unhide HBW)).1.get (k := k) (x := .bool b) (by simp [hb])
          obtain ⟨qb, qo, eb, cq⟩ := ((unhide HP).later (unhide HBW)).2.1.get (k := k) (x := .int .i64 m) (by simp [hm])
          rw [ea] at r1
          rw [eb] at r2
          have HS := hide (zip_get hb hm)
          have i1 : (k : Int) < (X.nl.length : Int) := by omega
          have i2 : (k : Int) < (X.ns.length : Int) := by rw [unhide HNS]; exact i1
          clear hb hm ea eb
          cases b
          · have HQ := hide (stepG (unhide HN) (unhide HS) (by simp [badN]))
            go_wp2
            go_roundw
            case rel => exact ⟨k + 1, by omega, by go_num, HQ, by first | rfl | trivial⟩
            case measure => simp [intOf]; omega
          · rcases Bool.eq_false_or_eq_true (m != 0) with em | em
            · have HE : Hid (G = false) := by show _ = _; rw [unhide HG, hitG (unhide HS) (by simpa [badN] using em)]; rfl
              go_wp2
              go_ret
              exact ⟨by rw [unhide HE]; rfl, unhide HBW⟩
            · have HQ := hide (stepG (unhide HN) (unhide HS) (by simpa [badN] using em))
              go_wp2
              go_roundw
              case rel => exact ⟨k + 1, by omega, by go_num, HQ, by first | rfl | trivial⟩
              case measure => simp [intOf]; omega
        · have i1 : ¬ (k : Int) < (X.nl.length : Int) := by omega
          have HE : Hid (G = true) := by
            show _ = _
            have e : k = X.nl.length := by omega
            rw [unhide HG, noneG (by rw [unhide HZL, ← e]; exact unhide HN)]; rfl
          go_wp2
          go_ret
          exact ⟨by rw [unhide HE]; rfl, unhide HBW⟩
    · have z' : ((X.ss.length : Int) != 0) = true := by simp; intro e; exact z (by rw [e]; rfl)
      have e1' : ((X.ns.length : Int) != (X.nl.length : Int)) = false := by simp [e1]
      have HE := hide (goodN_no2 k1 z)
      generalize goodB X = G at HE ⊢
      clear z e1 hp
      go_enter Try.func10, Try.ntmps10
      go_wp2
      go_ret
      exact ⟨by rw [unhide HE]; rfl, below_alloc (Below.refl _ _) _⟩
  · have e1' : ((X.ns.length : Int) != (X.nl.length : Int)) = true := by simp; omega
    have HE := hide (goodN_no1 k1 e1)
    generalize goodB X = G at HE ⊢
    clear e1 hp
    go_enter Try.func10, Try.ntmps10
    go_wp2
    go_ret
    exact ⟨by rw [unhide HE]; rfl, below_alloc (Below.refl _ _) _⟩

def badT (p : Bool × ByteArray) : Bool := badS p || largeB p.2
theorem badT_any {nl : List Bool} {ss : List ByteArray} (e : nl.length = ss.length) : (nl.zip ss).any badT = ((nl.zip ss).any badS || ss.any largeB) := by
  have h : ss.any largeB = (nl.zip ss).any (fun p => largeB p.2) := by
    have : (nl.zip ss).map Prod.snd = ss := List.map_snd_zip (by omega)
    conv => lhs; rw [← this, List.any_map]
    rfl
  rw [h]
  induction nl.zip ss with
  | nil => rfl
  | cons p l ih => simp only [List.any_cons, ih, badT]; cases badS p <;> cases largeB p.2 <;> simp
theorem goodT_of {X : Vc} (k1 : (X.k == 1) = false) (k2 : (X.k == 2) = true) (z : X.ns.length = 0) (e : X.ss.length = X.nl.length) : goodB X = !(X.nl.zip X.ss).any badT := by
  rw [badT_any e.symm]
  simp [goodB, k1, k2, z, znS, e]
theorem goodT_no1 {X : Vc} (k1 : (X.k == 1) = false) (k2 : (X.k == 2) = true) (e : X.ss.length ≠ X.nl.length) : goodB X = false := by
  simp only [goodB, k1, k2, if_true, znS]
  rw [beq_false_of_ne (fun h => e h.symm)]; simp
theorem goodT_no2 {X : Vc} (k1 : (X.k == 1) = false) (k2 : (X.k == 2) = true) (z : X.ns.length ≠ 0) : goodB X = false := by
  simp only [goodB, k1, k2, if_true]
  rw [beq_false_of_ne z]; simp

set_option maxHeartbeats 4000000 in
set_option maxRecDepth 100000 in
theorem rgood_text (X : Vc) (p : Sl) (w : World) (hs : small X) (hp : VecAt w X p) (k1 : (X.k == 2) = true) :
    Calls Try.prog 10 #[vecV X p] w fun e w' => e = .returned (.bool (goodB X)) ∧ Below w.heap.size w w' := by
  rw [vecV_open]
  obtain ⟨l1, l2, l3⟩ := hs
  have k2 : (X.k == 1) = false := by have := beq_iff_eq.1 k1; rw [this]; rfl
  have k3 : (X.k != 1) = true := by simpa using k2
  have k4 : (X.k != 2) = false := by simpa using k1
  have HP := hide hp
  clear hp
  generalize hGX : goodB X = G
  have HGX := hide hGX
  clear hGX
  obtain ⟨W1, hW1⟩ : ∃ W1, W1 = boxV w X p := ⟨_, rfl⟩
  obtain ⟨⟨r0, r1, r2, r3⟩, hbw, hzw⟩ := boxV_facts (Below.refl (boxV w X p).heap.size (boxV w X p))
  go_enter Try.func10, Try.ntmps10
  go_upto_region 3 with fail
  change Code.wp _ _ _ _ (boxV w X p)
  have q1 := cell_regrown r1
  refine wp_region_quiet_below (by kernel_rfl) (by kernel_rfl) ?_
  repeat (go_big_quiet_step (fail))
  refine wpQuiet_nil ?_
  intro w' hw'
  have hB2 : Below (boxV w X p).heap.size (boxV w X p) w' := by obtain ⟨p, rfl⟩ := hw'; exact below_regrown _ _ _
  clear hw' r0 r1 r2 r3 hbw hzw q1 hW1 W1
  obtain ⟨⟨r0, r1, r2, r3⟩, hbw, hzw⟩ := boxV_facts hB2
  have HBW := hide hbw
  clear hbw
  obtain ⟨W1, rfl⟩ : ∃ W1, W1 = w' := ⟨_, rfl⟩
  by_cases z : X.ns.length = 0
  · by_cases e1 : X.ss.length = X.nl.length
    · have HG : Hid (G = !(X.nl.zip X.ss).any badT) := by show _ = _; rw [← unhide HGX]; exact goodT_of k2 k1 z e1
      have z' : ((X.ns.length : Int) != 0) = false := by simp [z]
      have e1' : ((X.ss.length : Int) != (X.nl.length : Int)) = false := by simp [e1]
      have HZL : Hid ((X.nl.zip X.ss).length = X.nl.length) := by show _ = _; simp [e1]
      have HNS := hide e1
      clear z e1
      go_wp2_with fail
      go_loopw [40] (fun i wr => ∃ k : Nat, k ≤ X.nl.length ∧ i = .int .i64 k ∧ Hid (∀ i y, i < k → (X.nl.zip X.ss)[i]? = some y → badT y = false) ∧ wr = W1) (fun i _ => X.nl.length - (intOf i).toNat)
      case atStart => exact ⟨0, Nat.zero_le _, rfl, fun i y h => by omega, rfl⟩
      case round =>
        obtain ⟨k, hk, rfl, HN, rfl⟩ := hrel
        by_cases h1 : k < X.nl.length
        · obtain ⟨b, hb⟩ : ∃ b, X.nl[k]? = some b := ⟨_, List.getElem?_eq_getElem h1⟩
          obtain ⟨m, hm⟩ : ∃ m, X.ss[k]? = some m := ⟨_, List.getElem?_eq_getElem (by rw [unhide HNS]; exact h1)⟩
          obtain ⟨pb, po, ea, cp⟩ := ((unhide HP).later (unhide HBW)).1.get (k := k) (x := .bool b) (by simp [hb])
          obtain ⟨qb, qo, eb, cq⟩ := ((unhide HP).later (unhide HBW)).2.2.get (k := k) (x := .string m) (by simp [hm])
          rw [ea] at r1
          rw [eb] at r3
          have HS := hide (zip_get hb hm)
          have i1 : (k : Int) < (X.nl.length : Int) := by omega
          have i2 : (k : Int) < (X.ss.length : Int) := by rw [unhide HNS]; exact i1
          clear hb hm ea eb
          by_cases hL : (1000 : Int) < (m.size : Int)
          · have HE : Hid (G = false) := by show _ = _; rw [unhide HG, hitG (unhide HS) (by simp only [badT, largeB]; simp [hL])]; rfl
            cases b
            · go_wp2
              go_ret
              exact ⟨by rw [unhide HE]; rfl, unhide HBW⟩
            · rcases Bool.eq_false_or_eq_true (!m.toList.isEmpty) with em | em
              · go_wp2
                go_ret
                exact ⟨by rw [unhide HE]; rfl, unhide HBW⟩
              · go_wp2
                go_ret
                exact ⟨by rw [unhide HE]; rfl, unhide HBW⟩
          · have eL : largeB m = false := by simpa [largeB] using hL
            cases b
            · have HQ := hide (stepG (unhide HN) (unhide HS) (by simp only [badT, badS, eL]; rfl))
              go_wp2
              go_roundw
              case rel => exact ⟨k + 1, by omega, by go_num, HQ, by first | rfl | trivial⟩
              case measure => simp [intOf]; omega
            · rcases Bool.eq_false_or_eq_true (!m.toList.isEmpty) with em | em
              · have HE : Hid (G = false) := by show _ = _; rw [unhide HG, hitG (unhide HS) (by simp only [badT, badS, em]; rfl)]; rfl
                go_wp2
                go_ret
                exact ⟨by rw [unhide HE]; rfl, unhide HBW⟩
              · have HQ := hide (stepG (unhide HN) (unhide HS) (by simp only [badT, badS, eL, em]; rfl))
                go_wp2
                go_roundw
                case rel => exact ⟨k + 1, by omega, by go_num, HQ, by first | rfl | trivial⟩
                case measure => simp [intOf]; omega
        · have i1 : ¬ (k : Int) < (X.nl.length : Int) := by omega
          have HE : Hid (G = true) := by
            show _ = _
            have e : k = X.nl.length := by omega
            rw [unhide HG, noneG (by rw [unhide HZL, ← e]; exact unhide HN)]; rfl
          go_wp2
          go_ret
          exact ⟨by rw [unhide HE]; rfl, unhide HBW⟩
    · have z' : ((X.ns.length : Int) != 0) = false := by simp [z]
      have e1' : ((X.ss.length : Int) != (X.nl.length : Int)) = true := by simp; omega
      have HE : Hid (G = false) := by show _ = _; rw [← unhide HGX]; exact goodT_no1 k2 k1 e1
      clear z e1
      go_wp2
      go_ret
      exact ⟨by rw [unhide HE]; rfl, unhide HBW⟩
  · have z' : ((X.ns.length : Int) != 0) = true := by simp; intro e; exact z (by rw [e]; rfl)
    have HE : Hid (G = false) := by show _ = _; rw [← unhide HGX]; exact goodT_no2 k2 k1 z
    clear z
    go_wp2
    go_ret
    exact ⟨by rw [unhide HE]; rfl, unhide HBW⟩

set_option maxHeartbeats 1000000 in
theorem rgood_other (X : Vc) (p : Sl) (w : World) (k1 : (X.k == 1) = false) (k2 : (X.k == 2) = false) :
    Calls Try.prog 10 #[vecV X p] w fun e w' => e = .returned (.bool (goodB X)) ∧ Below w.heap.size w w' := by
  rw [vecV_open]
  have k3 : (X.k != 1) = true := by simpa using k1
  have k4 : (X.k != 2) = true := by simpa using k2
  have HE : Hid (goodB X = false) := by show _ = _; simp [goodB, k1, k2]
  generalize goodB X = G at HE ⊢
  go_enter Try.func10, Try.ntmps10
  go_wp2
  go_ret
  exact ⟨by rw [unhide HE]; rfl, below_alloc (Below.refl _ _) _⟩
theorem rgood_any (X : Vc) (p : Sl) (w : World) (hs : small X) (hp : VecAt w X p) :
    Calls Try.prog 10 #[vecV X p] w fun e w' => e = .returned (.bool (goodB X)) ∧ Below w.heap.size w w' := by
  rcases Bool.eq_false_or_eq_true (X.k == 1) with k1 | k1
  · exact rgood_int X p w hs hp k1
  · rcases Bool.eq_false_or_eq_true (X.k == 2) with k2 | k2
    · exact rgood_text X p w hs hp k2
    · exact rgood_other X p w k1 k2
end Go.Proofs.Ytifohbapfciniab

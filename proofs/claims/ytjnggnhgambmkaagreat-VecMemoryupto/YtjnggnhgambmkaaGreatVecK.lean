import Derived.Test.YtjnggnhgambmkaaGreatVecA
set_option linter.unusedSimpArgs false
set_option linter.unusedVariables false
namespace Go.Proofs.YtjnggnhgambmkaaGreat
open Go.RowKit Go.Sort

section
variable {α : Type}
theorem hitG {p : α → Bool} {ys : List α} {k : Nat} {y : α} (h : ys[k]? = some y) (hp : p y = true) : ys.any p = true :=
  List.any_eq_true.2 ⟨y, List.mem_of_getElem? h, hp⟩
theorem noneG {p : α → Bool} {ys : List α} (h : ∀ i y, i < ys.length → ys[i]? = some y → p y = false) : ys.any p = false := by
  rw [List.any_eq_false]
  intro y hy
  obtain ⟨i, hi⟩ := List.mem_iff_getElem?.1 hy
  rw [h i y (List.getElem?_eq_some_iff.1 hi).1 hi]; simp
theorem stepG {p : α → Bool} {ys : List α} {k : Nat} {y : α} (h : ∀ i y, i < k → ys[i]? = some y → p y = false) (hy : ys[k]? = some y) (hp : p y = false) : ∀ i y, i < k + 1 → ys[i]? = some y → p y = false := by
  intro i z hi hz
  by_cases e : i = k
  · subst e; rw [hy] at hz; cases hz; exact hp
  · exact h i z (by omega) hz
end
theorem zip_get {α β : Type} {xs : List α} {ys : List β} {k : Nat} {a : α} {b : β} (h1 : xs[k]? = some a) (h2 : ys[k]? = some b) : (xs.zip ys)[k]? = some (a, b) := by
  rw [List.getElem?_zip_eq_some]; exact ⟨h1, h2⟩

def badN (p : Bool × Int) : Bool := p.1 && p.2 != 0
def badS (p : Bool × ByteArray) : Bool := p.1 && !p.2.toList.isEmpty
def znN (nl : List Bool) (ns : List Int) : Bool := nl.length == ns.length && !(nl.zip ns).any badN
def znS (nl : List Bool) (ss : List ByteArray) : Bool := nl.length == ss.length && !(nl.zip ss).any badS

set_option maxHeartbeats 2000000 in
theorem zeroN_any (a1 a2 : Option Addr) (c1 c2 : Nat) (nl : List Bool) (ns : List Int) (w : World) (l1 : nl.length ≤ 4398046511104) (l2 : ns.length ≤ 4398046511104) (h1 : LisAt w a1 (nl.map .bool)) (h2 : LisAt w a2 (ns.map (.int .i64))) :
    Calls Tryz.prog 27 #[.slice a1 nl.length c1, .slice a2 ns.length c2] w fun e w' => e = .returned (.bool (znN nl ns)) ∧ w' = w := by
  have H1 := hide h1
  have H2 := hide h2
  clear h1 h2
  by_cases e : nl.length = ns.length
  · obtain ⟨n, hn⟩ : ∃ n, n = ns.length := ⟨_, rfl⟩
    have HZ : Hid (znN nl ns = !(nl.zip ns).any badN) := by show _ = _; simp [znN, e]
    have HZL : Hid ((nl.zip ns).length = n) := by show _ = _; simp [e, hn]
    have HE1 : Hid (nl.length = n) := by show _ = _; rw [e, hn]
    have HE2 : Hid (ns.length = n) := hn.symm
    rw [e, ← hn]
    rw [← hn] at l2
    clear e hn l1
    generalize znN nl ns = Z at HZ ⊢
    go_enter Tryz.func27, Tryz.ntmps27
    go_wp2_with fail
    go_loopw [15] (fun i wr => ∃ k : Nat, k ≤ n ∧ i = .int .i64 k ∧ Hid (∀ i y, i < k → (nl.zip ns)[i]? = some y → badN y = false) ∧ wr = w) (fun i _ => n - (intOf i).toNat)
    case atStart => exact ⟨0, Nat.zero_le _, rfl, fun i y h => by omega, rfl⟩
    case round =>
      obtain ⟨k, hk, rfl, HN, rfl⟩ := hrel
      by_cases h1 : k < n
      · obtain ⟨b, hb⟩ : ∃ b, nl[k]? = some b := ⟨_, List.getElem?_eq_getElem (by rw [unhide HE1]; exact h1)⟩
        obtain ⟨m, hm⟩ : ∃ m, ns[k]? = some m := ⟨_, List.getElem?_eq_getElem (by rw [unhide HE2]; exact h1)⟩
        obtain ⟨pb, po, rfl, cp⟩ := (unhide H1).get (k := k) (x := .bool b) (by simp [hb])
        obtain ⟨qb, qo, rfl, cq⟩ := (unhide H2).get (k := k) (x := .int .i64 m) (by simp [hm])
        have HS := hide (zip_get hb hm)
        have i1 : (k : Int) < (n : Int) := by omega
        clear hb hm
        cases b
        · have HP := hide (stepG (unhide HN) (unhide HS) (by simp [badN]))
          go_wp2
          go_roundw
          case rel => exact ⟨k + 1, by omega, by go_num, HP, by first | rfl | trivial⟩
          case measure => simp [intOf]; omega
        · rcases Bool.eq_false_or_eq_true (m != 0) with em | em
          · have HE : Hid (Z = false) := by show _ = _; rw [unhide HZ, hitG (unhide HS) (by simpa [badN] using em)]; rfl
            go_wp2
            go_ret
            exact ⟨by rw [unhide HE]; rfl, rfl⟩
          · have HP := hide (stepG (unhide HN) (unhide HS) (by simpa [badN] using em))
            go_wp2
            go_roundw
            case rel => exact ⟨k + 1, by omega, by go_num, HP, by first | rfl | trivial⟩
            case measure => simp [intOf]; omega
      · have i1 : ¬ (k : Int) < (n : Int) := by omega
        have HE : Hid (Z = true) := by
          show _ = _
          have e : k = n := by omega
          rw [unhide HZ, noneG (by rw [unhide HZL, ← e]; exact unhide HN)]; rfl
        go_wp2
        go_ret
        exact ⟨by rw [unhide HE]; rfl, rfl⟩
  · have HZ : Hid (znN nl ns = false) := by show _ = _; simp [znN, e]
    have e' : ((nl.length : Int) != (ns.length : Int)) = true := by simp; omega
    clear e
    generalize znN nl ns = Z at HZ ⊢
    go_enter Tryz.func27, Tryz.ntmps27
    go_wp2
    go_ret
    exact ⟨by rw [unhide HZ]; rfl, rfl⟩
set_option maxHeartbeats 2000000 in
theorem zeroS_any (a1 a2 : Option Addr) (c1 c2 : Nat) (nl : List Bool) (ns : List ByteArray) (w : World) (l1 : nl.length ≤ 4398046511104) (l2 : ns.length ≤ 4398046511104) (h1 : LisAt w a1 (nl.map .bool)) (h2 : LisAt w a2 (ns.map .string)) :
    Calls Tryz.prog 28 #[.slice a1 nl.length c1, .slice a2 ns.length c2] w fun e w' => e = .returned (.bool (znS nl ns)) ∧ w' = w := by
  have H1 := hide h1
  have H2 := hide h2
  clear h1 h2
  by_cases e : nl.length = ns.length
  · obtain ⟨n, hn⟩ : ∃ n, n = ns.length := ⟨_, rfl⟩
    have HZ : Hid (znS nl ns = !(nl.zip ns).any badS) := by show _ = _; simp [znS, e]
    have HZL : Hid ((nl.zip ns).length = n) := by show _ = _; simp [e, hn]
    have HE1 : Hid (nl.length = n) := by show _ = _; rw [e, hn]
    have HE2 : Hid (ns.length = n) := hn.symm
    rw [e, ← hn]
    rw [← hn] at l2
    clear e hn l1
    generalize znS nl ns = Z at HZ ⊢
    go_enter Tryz.func28, Tryz.ntmps28
    go_wp2_with fail
    go_loopw [15] (fun i wr => ∃ k : Nat, k ≤ n ∧ i = .int .i64 k ∧ Hid (∀ i y, i < k → (nl.zip ns)[i]? = some y → badS y = false) ∧ wr = w) (fun i _ => n - (intOf i).toNat)
    case atStart => exact ⟨0, Nat.zero_le _, rfl, fun i y h => by omega, rfl⟩
    case round =>
      obtain ⟨k, hk, rfl, HN, rfl⟩ := hrel
      by_cases h1 : k < n
      · obtain ⟨b, hb⟩ : ∃ b, nl[k]? = some b := ⟨_, List.getElem?_eq_getElem (by rw [unhide HE1]; exact h1)⟩
        obtain ⟨m, hm⟩ : ∃ m, ns[k]? = some m := ⟨_, List.getElem?_eq_getElem (by rw [unhide HE2]; exact h1)⟩
        obtain ⟨pb, po, rfl, cp⟩ := (unhide H1).get (k := k) (x := .bool b) (by simp [hb])
        obtain ⟨qb, qo, rfl, cq⟩ := (unhide H2).get (k := k) (x := .string m) (by simp [hm])
        have HS := hide (zip_get hb hm)
        have i1 : (k : Int) < (n : Int) := by omega
        clear hb hm
        cases b
        · have HP := hide (stepG (unhide HN) (unhide HS) (by simp [badS]))
          go_wp2
          go_roundw
          case rel => exact ⟨k + 1, by omega, by go_num, HP, by first | rfl | trivial⟩
          case measure => simp [intOf]; omega
        · rcases Bool.eq_false_or_eq_true (!m.toList.isEmpty) with em | em
          · have HE : Hid (Z = false) := by show _ = _; rw [unhide HZ, hitG (unhide HS) (by simpa [badS] using em)]; rfl
            go_wp2
            go_ret
            exact ⟨by rw [unhide HE]; rfl, rfl⟩
          · have HP := hide (stepG (unhide HN) (unhide HS) (by simpa [badS] using em))
            go_wp2
            go_roundw
            case rel => exact ⟨k + 1, by omega, by go_num, HP, by first | rfl | trivial⟩
            case measure => simp [intOf]; omega
      · have i1 : ¬ (k : Int) < (n : Int) := by omega
        have HE : Hid (Z = true) := by
          show _ = _
          have e : k = n := by omega
          rw [unhide HZ, noneG (by rw [unhide HZL, ← e]; exact unhide HN)]; rfl
        go_wp2
        go_ret
        exact ⟨by rw [unhide HE]; rfl, rfl⟩
  · have HZ : Hid (znS nl ns = false) := by show _ = _; simp [znS, e]
    have e' : ((nl.length : Int) != (ns.length : Int)) = true := by simp; omega
    clear e
    generalize znS nl ns = Z at HZ ⊢
    go_enter Tryz.func28, Tryz.ntmps28
    go_wp2
    go_ret
    exact ⟨by rw [unhide HZ]; rfl, rfl⟩
end Go.Proofs.YtjnggnhgambmkaaGreat
set_option linter.unusedSimpArgs false
set_option linter.unusedVariables false
namespace Go.Proofs.YtjnggnhgambmkaaGreat
open Go.RowKit Go.Sort

set_option maxHeartbeats 2000000 in
theorem index_any (a : Option Addr) (c : Nat) (ss : List ByteArray) (w : World) (l : ss.length ≤ 4398046511104) (h : LisAt w a (ss.map .string)) :
    Calls Tryz.prog 40 #[.slice a ss.length c, .func (.func 25) #[] #[]] w fun e w' => (∃ i : Int, e = .returned (.int .i64 i) ∧ Hid (decide (0 ≤ i) = ss.any largeB)) ∧ w' = w := by
  have H := hide h
  clear h
  go_enter Tryz.func40, Tryz.ntmps40
  go_wp2_with fail
  go_loopw [8] (fun i wr => ∃ k : Nat, k ≤ ss.length ∧ i = .int .i64 k ∧ Hid (∀ i y, i < k → ss[i]? = some y → largeB y = false) ∧ wr = w) (fun i _ => ss.length - (intOf i).toNat)
  case atStart => exact ⟨0, Nat.zero_le _, rfl, fun i y h => by omega, rfl⟩
  case round =>
    obtain ⟨k, hk, rfl, HN, rfl⟩ := hrel
    by_cases h1 : k < ss.length
    · obtain ⟨s, hs⟩ : ∃ s, ss[k]? = some s := ⟨_, List.getElem?_eq_getElem h1⟩
      obtain ⟨pb, po, rfl, cp⟩ := (unhide H).get (k := k) (x := .string s) (by simp [hs])
      have HS := hide hs
      have i1 : (k : Int) < (ss.length : Int) := by omega
      clear hs
      rcases Bool.eq_false_or_eq_true (largeB s) with e1 | e1
      · have HE : Hid (decide (0 ≤ (k : Int)) = ss.any largeB) := by show _ = _; rw [hitG (unhide HS) e1]; simp
        go_wp2_with (go_at_call 25; refine (islarge_any _ _).mono ?_; rintro e w1 ⟨rfl, rfl⟩)
        go_ret
        exact ⟨⟨_, rfl, HE⟩, rfl⟩
      · have HP := hide (stepG (unhide HN) (unhide HS) e1)
        go_wp2_with (go_at_call 25; refine (islarge_any _ _).mono ?_; rintro e w1 ⟨rfl, rfl⟩)
        go_roundw
        case rel => exact ⟨k + 1, by omega, by go_num, HP, by first | rfl | trivial⟩
        case measure => simp [intOf]; omega
    · have i1 : ¬ (k : Int) < (ss.length : Int) := by omega
      have HE : Hid (decide (0 ≤ (-1 : Int)) = ss.any largeB) := by
        show _ = _
        have e : k = ss.length := by omega
        rw [noneG (by rw [← e]; exact unhide HN)]; rfl
      go_wp2
      go_ret
      exact ⟨⟨_, rfl, HE⟩, rfl⟩
theorem contains_any (a : Option Addr) (c : Nat) (ss : List ByteArray) (w : World) (l : ss.length ≤ 4398046511104) (h : LisAt w a (ss.map .string)) :
    Calls Tryz.prog 29 #[.slice a ss.length c, .func (.func 25) #[] #[]] w fun e w' => e = .returned (.bool (ss.any largeB)) ∧ w' = w := by
  have HI := hide (index_any a c ss w l h)
  generalize ss.any largeB = Z at HI ⊢
  clear h l
  go_enter Tryz.func29, Tryz.ntmps29
  go_wp2_with (go_at_call 40; refine (unhide HI).mono ?_; rintro e w1 ⟨⟨i, rfl, HE⟩, rfl⟩)
  go_ret
  exact ⟨by rw [← unhide HE]; rfl, rfl⟩

def small (X : Vc) : Prop := X.nl.length ≤ 4398046511104 ∧ X.ns.length ≤ 4398046511104 ∧ X.ss.length ≤ 4398046511104
def goodB (X : Vc) : Bool :=
  if X.k == 1 then X.ss.length == 0 && znN X.nl X.ns
  else if X.k == 2 then (X.ns.length == 0 && znS X.nl X.ss) && !X.ss.any largeB
  else false

set_option maxHeartbeats 2000000 in
theorem good_any (X : Vc) (p : Sl) (w : World) (hs : small X) (hp : VecAt w X p) :
    Calls Tryz.prog 6 #[vecV X p] w fun e w' => e = .returned (.bool (goodB X)) ∧ Below w.heap.size w w' := by
  rw [vecV_open]
  obtain ⟨l1, l2, l3⟩ := hs
  have HN : Hid (∀ w', Below w.heap.size w w' → Calls Tryz.prog 27 #[.slice p.a1 X.nl.length p.c1, .slice p.a2 X.ns.length p.c2] w' fun e w'' => e = .returned (.bool (znN X.nl X.ns)) ∧ w'' = w') :=
    fun w' hb => zeroN_any _ _ _ _ _ _ _ l1 l2 (hp.1.later hb) (hp.2.1.later hb)
  have HT : Hid (∀ w', Below w.heap.size w w' → Calls Tryz.prog 28 #[.slice p.a1 X.nl.length p.c1, .slice p.a3 X.ss.length p.c3] w' fun e w'' => e = .returned (.bool (znS X.nl X.ss)) ∧ w'' = w') :=
    fun w' hb => zeroS_any _ _ _ _ _ _ _ l1 l3 (hp.1.later hb) (hp.2.2.later hb)
  have HC : Hid (∀ w', Below w.heap.size w w' → Calls Tryz.prog 29 #[.slice p.a3 X.ss.length p.c3, .func (.func 25) #[] #[]] w' fun e w'' => e = .returned (.bool (X.ss.any largeB)) ∧ w'' = w') :=
    fun w' hb => contains_any _ _ _ _ l3 (hp.2.2.later hb)
  clear hp
  rcases Bool.eq_false_or_eq_true (X.k == 1) with k1 | k1
  · have HG : Hid (goodB X = (X.ss.length == 0 && znN X.nl X.ns)) := by show _ = _; simp [goodB, k1]
    generalize goodB X = G at HG ⊢
    by_cases z : X.ss.length = 0
    · have z' : ((X.ss.length : Int) == 0) = true := by simp [z]
      have HE : Hid (G = znN X.nl X.ns) := by show _ = _; rw [unhide HG, z]; simp
      clear z HG
      generalize znN X.nl X.ns = Z at HE HN
      go_enter Tryz.func6, Tryz.ntmps6
      go_wp2_with (go_at_call 27; refine (unhide HN _ (below_alloc (Below.refl _ _) _)).mono ?_; rintro e w1 ⟨rfl, rfl⟩)
      go_ret
      exact ⟨by rw [unhide HE]; rfl, below_alloc (Below.refl _ _) _⟩
    · have z' : ((X.ss.length : Int) == 0) = false := by simp; intro e; exact z (by rw [e]; rfl)
      have HE : Hid (G = false) := by show _ = _; rw [unhide HG]; simp; intro e; exact absurd (by rw [e]; rfl) z
      clear z HG
      go_enter Tryz.func6, Tryz.ntmps6
      go_wp2
      go_ret
      exact ⟨by rw [unhide HE]; rfl, below_alloc (Below.refl _ _) _⟩
  · rcases Bool.eq_false_or_eq_true (X.k == 2) with k2 | k2
    · have HG : Hid (goodB X = ((X.ns.length == 0 && znS X.nl X.ss) && !X.ss.any largeB)) := by show _ = _; simp [goodB, k1, k2]
      generalize goodB X = G at HG ⊢
      generalize znS X.nl X.ss = Z at HG HT
      generalize X.ss.any largeB = L at HG HC
      by_cases z : X.ns.length = 0
      · have z' : ((X.ns.length : Int) == 0) = true := by simp [z]
        have HE : Hid (G = (Z && !L)) := by show _ = _; rw [unhide HG, z]; simp
        clear z HG
        cases Z
        · go_enter Tryz.func6, Tryz.ntmps6
          go_wp2_with (go_at_call 28; refine (unhide HT _ (below_alloc (Below.refl _ _) _)).mono ?_; rintro e w1 ⟨rfl, rfl⟩)
          go_ret
          exact ⟨by rw [unhide HE]; rfl, below_alloc (Below.refl _ _) _⟩
        · go_enter Tryz.func6, Tryz.ntmps6
          go_wp2_with (first | (go_at_call 28; refine (unhide HT _ (below_alloc (Below.refl _ _) _)).mono ?_; rintro e w1 ⟨rfl, rfl⟩) | (go_at_call 29; refine (unhide HC _ (below_alloc (Below.refl _ _) _)).mono ?_; rintro e w1 ⟨rfl, rfl⟩))
          go_ret
          exact ⟨by rw [unhide HE]; rfl, below_alloc (Below.refl _ _) _⟩
      · have z' : ((X.ns.length : Int) == 0) = false := by simp; intro e; exact z (by rw [e]; rfl)
        have HE : Hid (G = false) := by show _ = _; rw [unhide HG]; simp; intro e; exact absurd (by rw [e]; rfl) z
        clear z HG
        go_enter Tryz.func6, Tryz.ntmps6
        go_wp2
        go_ret
        exact ⟨by rw [unhide HE]; rfl, below_alloc (Below.refl _ _) _⟩
    · have HE : Hid (goodB X = false) := by show _ = _; simp [goodB, k1, k2]
      generalize goodB X = G at HE ⊢
      go_enter Tryz.func6, Tryz.ntmps6
      go_wp2
      go_ret
      exact ⟨by rw [unhide HE]; rfl, below_alloc (Below.refl _ _) _⟩
end Go.Proofs.YtjnggnhgambmkaaGreat

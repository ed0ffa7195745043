import Derived.Test.YtihkflcdphebmabVecA
set_option linter.unusedSimpArgs false
set_option linter.unusedVariables false
namespace Go.Proofs.Ytihkflcdphebmab
open Go.RowKit Go.Sort

def fit (X : Vc) : Prop := X.nl.length ≤ maxLen ∧ X.ns.length ≤ maxLen ∧ X.ss.length ≤ maxLen
theorem LisAt.get {w : World} {a : Option Addr} {cs : List Value} {k : Nat} {x : Value} (h : LisAt w a cs) (hx : cs[k]? = some x) : ∃ b off, a = some ⟨b, off, none⟩ ∧ w.cell? ⟨b, off + k, none⟩ = some x := by
  rcases h with h | ⟨b, off, ha, h⟩
  · rw [h] at hx; cases hx
  · exact ⟨b, off, ha, h k x hx⟩

def two (w : World) (v1 v2 v3 v4 u1 u2 u3 u4 : Value) : World := (w.alloc (.cells #[v1, v2, v3, v4] 27)).alloc (.cells #[u1, u2, u3, u4] 27)
theorem two_facts {w w' : World} {v1 v2 v3 v4 u1 u2 u3 u4 : Value} (h : Below (two w v1 v2 v3 v4 u1 u2 u3 u4).heap.size (two w v1 v2 v3 v4 u1 u2 u3 u4) w') :
    (w'.cell? ⟨w.heap.size, 1, none⟩ = some v2 ∧ w'.cell? ⟨w.heap.size, 2, none⟩ = some v3 ∧ w'.cell? ⟨w.heap.size, 3, none⟩ = some v4) ∧
    (w'.cell? ⟨w.heap.size + 1, 1, none⟩ = some u2 ∧ w'.cell? ⟨w.heap.size + 1, 2, none⟩ = some u3 ∧ w'.cell? ⟨w.heap.size + 1, 3, none⟩ = some u4) ∧ Below w.heap.size w w' := by
  have hs : (two w v1 v2 v3 v4 u1 u2 u3 u4).heap.size = w.heap.size + 1 + 1 := by simp [two]
  obtain ⟨hc, hf⟩ := bcell h
  refine ⟨⟨?_, ?_, ?_⟩, ⟨?_, ?_, ?_⟩, ?_⟩
  · rw [hc _ _ (by rw [hs]; omega)]; simp [two, go_sem]
  · rw [hc _ _ (by rw [hs]; omega)]; simp [two, go_sem]
  · rw [hc _ _ (by rw [hs]; omega)]; simp [two, go_sem]
  · rw [hc _ _ (by rw [hs]; omega)]; simp [two, go_sem]
  · rw [hc _ _ (by rw [hs]; omega)]; simp [two, go_sem]
  · rw [hc _ _ (by rw [hs]; omega)]; simp [two, go_sem]
  · exact (((Below.refl _ _).alloc (Nat.le_refl _) _).alloc (by simp) _).trans (h.mono (by rw [hs]; omega))

set_option maxHeartbeats 4000000 in
set_option maxRecDepth 100000 in
theorem samevec_same (X : Vc) (p q : Sl) (w : World) (hf : fit X) (hp : VecAt w X p) (hq : VecAt w X q) :
    Calls Try.prog 10 #[vecV X p, vecV X q] w fun e w' => e = .returned (.bool true) ∧ Below w.heap.size w w' := by
  rw [vecV_open, vecV_open]
  have HP := hide hp
  have HQ := hide hq
  obtain ⟨l1, l2, l3⟩ := hf
  unfold maxLen at l1 l2 l3
  clear hp hq
  obtain ⟨W2, hW2⟩ : ∃ W2, W2 = two w (.int .i64 X.k) (.slice p.a1 X.nl.length p.c1) (.slice p.a2 X.ns.length p.c2) (.slice p.a3 X.ss.length p.c3) (.int .i64 X.k) (.slice q.a1 X.nl.length q.c1) (.slice q.a2 X.ns.length q.c2) (.slice q.a3 X.ss.length q.c3) := ⟨_, rfl⟩
  have HW2 := hide hW2
  go_enter Try.func10, Try.ntmps10
  go_wp2_with fail
  go_loopw [43] (fun i wr => ∃ k : Nat, k ≤ X.nl.length ∧ i = .int .i64 k ∧ Below W2.heap.size W2 wr) (fun i _ => X.nl.length - (intOf i).toNat)
  case atStart => exact ⟨0, Nat.zero_le _, rfl, by rw [hW2]; exact Below.refl _ _⟩
  case round =>
    clear hW2
    obtain ⟨k, hkl, rfl, hb⟩ := hrel
    have hb' := hb
    rw [unhide HW2] at hb'
    obtain ⟨⟨v2, v3, v4⟩, ⟨u2, u3, u4⟩, hB⟩ := two_facts hb'
    by_cases h1 : k < X.nl.length
    · obtain ⟨x, hx⟩ : ∃ x, X.nl[k]? = some x := ⟨_, List.getElem?_eq_getElem h1⟩
      obtain ⟨pb, po, ep, cp⟩ := ((unhide HP).later hB).1.get (k := k) (x := .bool x) (by simp [hx])
      obtain ⟨qb, qo, eq, cq⟩ := ((unhide HQ).later hB).1.get (k := k) (x := .bool x) (by simp [hx])
      rw [ep] at v2
      rw [eq] at u2
      have k0 := cell_regrown v2
      have k1 := cell_regrown u2
      have k2 := cell_regrown cp
      have k3 := cell_regrown cq
      have i1 : (k : Int) < (X.nl.length : Int) := by omega
      clear ep eq hx hb'
      go_wp2_with fail
      refine wp_region_quiet_below (by kernel_rfl) (by kernel_rfl) ?_
      repeat (go_big_quiet_step (fail))
      refine wpQuiet_nil ?_
      intro w' hw'
      have hB2 : Below wr.heap.size wr w' := by obtain ⟨p, rfl⟩ := hw'; exact below_regrown _ _ _
      clear hw'
      have hbel' := below_step hb hB2
      go_wp2
      go_roundw
      case rel => exact ⟨k + 1, by omega, by go_num, hbel'⟩
      case measure => simp [intOf]; omega
    · have i1 : ¬ (k : Int) < (X.nl.length : Int) := by omega
      obtain ⟨W3, rfl⟩ : ∃ W3, W3 = wr := ⟨_, rfl⟩
      go_wp2
      clear hb' v2 v3 v4 u2 u3 u4 hB hkl h1 i1
      go_loopw [61] (fun i wr => ∃ k : Nat, k ≤ X.ns.length ∧ i = .int .i64 k ∧ Below W2.heap.size W2 wr) (fun i _ => X.ns.length - (intOf i).toNat)
      case atStart => exact ⟨0, Nat.zero_le _, rfl, hb⟩
      case round =>
        clear hb
        obtain ⟨k, hkl, rfl, hb⟩ := hrel
        have hb' := hb
        rw [unhide HW2] at hb'
        obtain ⟨⟨v2, v3, v4⟩, ⟨u2, u3, u4⟩, hB⟩ := two_facts hb'
        by_cases h1 : k < X.ns.length
        · obtain ⟨x, hx⟩ : ∃ x, X.ns[k]? = some x := ⟨_, List.getElem?_eq_getElem h1⟩
          obtain ⟨pb, po, ep, cp⟩ := ((unhide HP).later hB).2.1.get (k := k) (x := .int .i64 x) (by simp [hx])
          obtain ⟨qb, qo, eq, cq⟩ := ((unhide HQ).later hB).2.1.get (k := k) (x := .int .i64 x) (by simp [hx])
          rw [ep] at v3
          rw [eq] at u3
          have k0 := cell_regrown v3
          have k1 := cell_regrown u3
          have k2 := cell_regrown cp
          have k3 := cell_regrown cq
          have i1 : (k : Int) < (X.ns.length : Int) := by omega
          clear ep eq hx hb'
          go_wp2_with fail
          refine wp_region_quiet_below (by kernel_rfl) (by kernel_rfl) ?_
          repeat (go_big_quiet_step (fail))
          refine wpQuiet_nil ?_
          intro w' hw'
          have hB2 : Below wr.heap.size wr w' := by obtain ⟨p, rfl⟩ := hw'; exact below_regrown _ _ _
          clear hw'
          have hbel' := below_step hb hB2
          go_wp2
          go_roundw
          case rel => exact ⟨k + 1, by omega, by go_num, hbel'⟩
          case measure => simp [intOf]; omega
        · have i1 : ¬ (k : Int) < (X.ns.length : Int) := by omega
          obtain ⟨W3, rfl⟩ : ∃ W3, W3 = wr := ⟨_, rfl⟩
          go_wp2
          clear hb' v2 v3 v4 u2 u3 u4 hB hkl h1 i1
          go_loopw [79] (fun i wr => ∃ k : Nat, k ≤ X.ss.length ∧ i = .int .i64 k ∧ Below W2.heap.size W2 wr) (fun i _ => X.ss.length - (intOf i).toNat)
          case atStart => exact ⟨0, Nat.zero_le _, rfl, hb⟩
          case round =>
            clear hb
            obtain ⟨k, hkl, rfl, hb⟩ := hrel
            have hb' := hb
            rw [unhide HW2] at hb'
            obtain ⟨⟨v2, v3, v4⟩, ⟨u2, u3, u4⟩, hB⟩ := two_facts hb'
            by_cases h1 : k < X.ss.length
            · obtain ⟨x, hx⟩ : ∃ x, X.ss[k]? = some x := ⟨_, List.getElem?_eq_getElem h1⟩
              obtain ⟨pb, po, ep, cp⟩ := ((unhide HP).later hB).2.2.get (k := k) (x := .string x) (by simp [hx])
              obtain ⟨qb, qo, eq, cq⟩ := ((unhide HQ).later hB).2.2.get (k := k) (x := .string x) (by simp [hx])
              rw [ep] at v4
              rw [eq] at u4
              have k0 := cell_regrown v4
              have k1 := cell_regrown u4
              have k2 := cell_regrown cp
              have k3 := cell_regrown cq
              have i1 : (k : Int) < (X.ss.length : Int) := by omega
              clear ep eq hx hb'
              go_wp2_with fail
              refine wp_region_quiet_below (by kernel_rfl) (by kernel_rfl) ?_
              repeat (go_big_quiet_step (fail))
              refine wpQuiet_nil ?_
              intro w' hw'
              have hB2 : Below wr.heap.size wr w' := by obtain ⟨p, rfl⟩ := hw'; exact below_regrown _ _ _
              clear hw'
              have hbel' := below_step hb hB2
              go_wp2
              go_roundw
              case rel => exact ⟨k + 1, by omega, by go_num, hbel'⟩
              case measure => simp [intOf]; omega
            · have i1 : ¬ (k : Int) < (X.ss.length : Int) := by omega
              clear hb'
              go_wp2
              go_ret
              exact ⟨rfl, hB⟩
end Go.Proofs.Ytihkflcdphebmab
set_option linter.unusedSimpArgs false
set_option linter.unusedVariables false
namespace Go.Proofs.Ytihkflcdphebmab
open Go.RowKit Go.Sort

section
variable {α : Type}
theorem hitG {p : α → Bool} {ys : List α} {k : Nat} {y : α} (h : ys[k]? = some y) (hp : p y = true) : ys.any p = true :=
  List.any_eq_true.2 ⟨y, List.mem_of_getElem? h, hp⟩
theorem noneG {p : α → Bool} {ys : List α} (h : ∀ i y, i < ys.length → ys[i]? = some y → p y = false) : ys.any p = false := by
  rw [List.any_eq_false]
  intro y hy
  obtain ⟨i, hi⟩ := List.mem_iff_getElem?.1 hy
  rw [h i y (List.getElem?_eq_some_iff.1 hi).1 hi]; simp
theorem stepG {p : α → Bool} {ys : List α} {k : Nat} {y : α} (h : ∀ i y, i < k → ys[i]? = some y → p y = false) (hy : ys[k]? = some y) (hp : p y = false) : ∀ i y, i < k + 1 → ys[i]? = some y → p y = false := by
  intro i z hi hz
  by_cases e : i = k
  · subst e; rw [hy] at hz; cases hz; exact hp
  · exact h i z (by omega) hz
end
theorem zip_get {α β : Type} {xs : List α} {ys : List β} {k : Nat} {a : α} {b : β} (h1 : xs[k]? = some a) (h2 : ys[k]? = some b) : (xs.zip ys)[k]? = some (a, b) := by
  rw [List.getElem?_zip_eq_some]; exact ⟨h1, h2⟩

def badN (p : Bool × Int) : Bool := p.1 && p.2 != 0
def badS (p : Bool × ByteArray) : Bool := p.1 && !p.2.toList.isEmpty
def znN (nl : List Bool) (ns : List Int) : Bool := nl.length == ns.length && !(nl.zip ns).any badN
def znS (nl : List Bool) (ss : List ByteArray) : Bool := nl.length == ss.length && !(nl.zip ss).any badS

set_option maxHeartbeats 2000000 in
theorem zeroN_any (a1 a2 : Option Addr) (c1 c2 : Nat) (nl : List Bool) (ns : List Int) (w : World) (l1 : nl.length ≤ 4398046511104) (l2 : ns.length ≤ 4398046511104) (h1 : LisAt w a1 (nl.map .bool)) (h2 : LisAt w a2 (ns.map (.int .i64))) :
    Calls Try.prog 40 #[.slice a1 nl.length c1, .slice a2 ns.length c2] w fun e w' => e = .returned (.bool (znN nl ns)) ∧ w' = w := by
  have H1 := hide h1
  have H2 := hide h2
  clear h1 h2
  by_cases e : nl.length = ns.length
  · obtain ⟨n, hn⟩ : ∃ n, n = ns.length := ⟨_, rfl⟩
    have HZ : Hid (znN nl ns = !(nl.zip ns).any badN) := by show _ = _; simp [znN, e]
    have HZL : Hid ((nl.zip ns).length = n) := by show _ = _; simp [e, hn]
    have HE1 : Hid (nl.length = n) := by show _ = _; rw [e, hn]
    have HE2 : Hid (ns.length = n) := hn.symm
    rw [e, ← hn]
    rw [← hn] at l2
    clear e hn l1
    generalize znN nl ns = Z at HZ ⊢
    go_enter Try.func40, Try.ntmps40
    go_wp2_with fail
    go_loopw [15] (fun i wr => ∃ k : Nat, k ≤ n ∧ i = .int .i64 k ∧ Hid (∀ i y, i < k → (nl.zip ns)[i]? = some y → badN y = false) ∧ wr = w) (fun i _ => n - (intOf i).toNat)
    case atStart => exact ⟨0, Nat.zero_le _, rfl, fun i y h => by omega, rfl⟩
    case round =>
      obtain ⟨k, hk, rfl, HN, rfl⟩ := hrel
      by_cases h1 : k < n
      · obtain ⟨b, hb⟩ : ∃ b, nl[k]? = some b := ⟨_, List.getElem?_eq_getElem (by rw [unhide HE1]; exact h1)⟩
        obtain ⟨m, hm⟩ : ∃ m, ns[k]? = some m := ⟨_, List.getElem?_eq_getElem (by rw [unhide HE2]; exact h1)⟩
        obtain ⟨pb, po, rfl, cp⟩ := (unhide H1).get (k := k) (x := .bool b) (by simp [hb])
        obtain ⟨qb, qo, rfl, cq⟩ := (unhide H2).get (k := k) (x := .int .i64 m) (by simp [hm])
        have HS := hide (zip_get hb hm)
        have i1 : (k : Int) < (n : Int) := by omega
        clear hb hm
        cases b
        · have HP := hide (stepG (unhide HN) (unhide HS) (by simp [badN]))
          go_wp2
          go_roundw
          case rel => exact ⟨k + 1, by omega, by go_num, HP, by first | rfl | trivial⟩
          case measure => simp [intOf]; omega
        · rcases Bool.eq_false_or_eq_true (m != 0) with em | em
          · have HE : Hid (Z = false) := by show _ = _; rw [unhide HZ, hitG (unhide HS) (by simpa [badN] using em)]; rfl
            go_wp2
            go_ret
            exact ⟨by rw [unhide HE]; rfl, rfl⟩
          · have HP := hide (stepG (unhide HN) (unhide HS) (by simpa [badN] using em))
            go_wp2
            go_roundw
            case rel => exact ⟨k + 1, by omega, by go_num, HP, by first | rfl | trivial⟩
            case measure => simp [intOf]; omega
      · have i1 : ¬ (k : Int) < (n : Int) := by omega
        have HE : Hid (Z = true) := by
          show _ = _
          have e : k = n := by omega
          rw [unhide HZ, noneG (by rw [unhide HZL, ← e]; exact unhide HN)]; rfl
        go_wp2
        go_ret
        exact ⟨by rw [unhide HE]; rfl, rfl⟩
  · have HZ : Hid (znN nl ns = false) := by show _ = _; simp [znN, e]
    have e' : ((nl.length : Int) != (ns.length : Int)) = true := by simp; omega
    clear e
    generalize znN nl ns = Z at HZ ⊢
    go_enter Try.func40, Try.ntmps40
    go_wp2
    go_ret
    exact ⟨by rw [unhide HZ]; rfl, rfl⟩
set_option maxHeartbeats 2000000 in
theorem zeroS_any (a1 a2 : Option Addr) (c1 c2 : Nat) (nl : List Bool) (ns : List ByteArray) (w : World) (l1 : nl.length ≤ 4398046511104) (l2 : ns.length ≤ 4398046511104) (h1 : LisAt w a1 (nl.map .bool)) (h2 : LisAt w a2 (ns.map .string)) :
    Calls Try.prog 41 #[.slice a1 nl.length c1, .slice a2 ns.length c2] w fun e w' => e = .returned (.bool (znS nl ns)) ∧ w' = w := by
  have H1 := hide h1
  have H2 := hide h2
  clear h1 h2
  by_cases e : nl.length = ns.length
  · obtain ⟨n, hn⟩ : ∃ n, n = ns.length := ⟨_, rfl⟩
    have HZ : Hid (znS nl ns = !(nl.zip ns).any badS) := by show _ = _; simp [znS, e]
    have HZL : Hid ((nl.zip ns).length = n) := by show _ = _; simp [e, hn]
    have HE1 : Hid (nl.length = n) := by show _ = _; rw [e, hn]
    have HE2 : Hid (ns.length = n) := hn.symm
    rw [e, ← hn]
    rw [← hn] at l2
    clear e hn l1
    generalize znS nl ns = Z at HZ ⊢
    go_enter Try.func41, Try.ntmps41
    go_wp2_with fail
    go_loopw [15] (fun i wr => ∃ k : Nat, k ≤ n ∧ i = .int .i64 k ∧ Hid (∀ i y, i < k → (nl.zip ns)[i]? = some y → badS y = false) ∧ wr = w) (fun i _ => n - (intOf i).toNat)
    case atStart => exact ⟨0, Nat.zero_le _, rfl, fun i y h => by omega, rfl⟩
    case round =>
      obtain ⟨k, hk, rfl, HN, rfl⟩ := hrel
      by_cases h1 : k < n
      · obtain ⟨b, hb⟩ : ∃ b, nl[k]? = some b := ⟨_, List.getElem?_eq_getElem (by rw [unhide HE1]; exact h1)⟩
        obtain ⟨m, hm⟩ : ∃ m, ns[k]? = some m := ⟨_, List.getElem?_eq_getElem (by rw [unhide HE2]; exact h1)⟩
        obtain ⟨pb, po, rfl, cp⟩ := (unhide H1).get (k := k) (x := .bool b) (by simp [hb])
        obtain ⟨qb, qo, rfl, cq⟩ := (unhide H2).get (k := k) (x := .string m) (by simp [hm])
        have HS := hide (zip_get hb hm)
        have i1 : (k : Int) < (n : Int) := by omega
        clear hb hm
        cases b
        · have HP := hide (stepG (unhide HN) (unhide HS) (by simp [badS]))
          go_wp2
          go_roundw
          case rel => exact ⟨k + 1, by omega, by go_num, HP, by first | rfl | trivial⟩
          case measure => simp [intOf]; omega
        · rcases Bool.eq_false_or_eq_true (!m.toList.isEmpty) with em | em
          · have HE : Hid (Z = false) := by show _ = _; rw [unhide HZ, hitG (unhide HS) (by simpa [badS] using em)]; rfl
            go_wp2
            go_ret
            exact ⟨by rw [unhide HE]; rfl, rfl⟩
          · have HP := hide (stepG (unhide HN) (unhide HS) (by simpa [badS] using em))
            go_wp2
            go_roundw
            case rel => exact ⟨k + 1, by omega, by go_num, HP, by first | rfl | trivial⟩
            case measure => simp [intOf]; omega
      · have i1 : ¬ (k : Int) < (n : Int) := by omega
        have HE : Hid (Z = true) := by
          show _ = _
          have e : k = n := by omega
          rw [unhide HZ, noneG (by rw [unhide HZL, ← e]; exact unhide HN)]; rfl
        go_wp2
        go_ret
        exact ⟨by rw [unhide HE]; rfl, rfl⟩
  · have HZ : Hid (znS nl ns = false) := by show _ = _; simp [znS, e]
    have e' : ((nl.length : Int) != (ns.length : Int)) = true := by simp; omega
    clear e
    generalize znS nl ns = Z at HZ ⊢
    go_enter Try.func41, Try.ntmps41
    go_wp2
    go_ret
    exact ⟨by rw [unhide HZ]; rfl, rfl⟩
end Go.Proofs.Ytihkflcdphebmab
set_option linter.unusedSimpArgs false
set_option linter.unusedVariables false
namespace Go.Proofs.Ytihkflcdphebmab
open Go.RowKit Go.Sort

set_option maxHeartbeats 2000000 in
theorem index_any (a : Option Addr) (c : Nat) (ss : List ByteArray) (w : World) (l : ss.length ≤ 4398046511104) (h : LisAt w a (ss.map .string)) :
    Calls Try.prog 57 #[.slice a ss.length c, .func (.func 35) #[] #[]] w fun e w' => (∃ i : Int, e = .returned (.int .i64 i) ∧ Hid (decide (0 ≤ i) = ss.any largeB)) ∧ w' = w := by
  have H := hide h
  clear h
  go_enter Try.func57, Try.ntmps57
  go_wp2_with fail
  go_loopw [8] (fun i wr => ∃ k : Nat, k ≤ ss.length ∧ i = .int .i64 k ∧ Hid (∀ i y, i < k → ss[i]? = some y → largeB y = false) ∧ wr = w) (fun i _ => ss.length - (intOf i).toNat)
  case atStart => exact ⟨0, Nat.zero_le _, rfl, fun i y h => by omega, rfl⟩
  case round =>
    obtain ⟨k, hk, rfl, HN, rfl⟩ := hrel
    by_cases h1 : k < ss.length
    · obtain ⟨s, hs⟩ : ∃ s, ss[k]? = some s := ⟨_, List.getElem?_eq_getElem h1⟩
      obtain ⟨pb, po, rfl, cp⟩ := (unhide H).get (k := k) (x := .string s) (by simp [hs])
      have HS := hide hs
      have i1 : (k : Int) < (ss.length : Int) := by omega
      clear hs
      rcases Bool.eq_false_or_eq_true (largeB s) with e1 | e1
      · have HE : Hid (decide (0 ≤ (k : Int)) = ss.any largeB) := by show _ = _; rw [hitG (unhide HS) e1]; simp
        go_wp2_with (go_at_call 35; refine (islarge_any _ _).mono ?_; rintro e w1 ⟨rfl, rfl⟩)
        go_ret
        exact ⟨⟨_, rfl, HE⟩, rfl⟩
      · have HP := hide (stepG (unhide HN) (unhide HS) e1)
        go_wp2_with (go_at_call 35; refine (islarge_any _ _).mono ?_; rintro e w1 ⟨rfl, rfl⟩)
        go_roundw
        case rel => exact ⟨k + 1, by omega, by go_num, HP, by first | rfl | trivial⟩
        case measure => simp [intOf]; omega
    · have i1 : ¬ (k : Int) < (ss.length : Int) := by omega
      have HE : Hid (decide (0 ≤ (-1 : Int)) = ss.any largeB) := by
        show _ = _
        have e : k = ss.length := by omega
        rw [noneG (by rw [← e]; exact unhide HN)]; rfl
      go_wp2
      go_ret
      exact ⟨⟨_, rfl, HE⟩, rfl⟩
theorem contains_any (a : Option Addr) (c : Nat) (ss : List ByteArray) (w : World) (l : ss.length ≤ 4398046511104) (h : LisAt w a (ss.map .string)) :
    Calls Try.prog 42 #[.slice a ss.length c, .func (.func 35) #[] #[]] w fun e w' => e = .returned (.bool (ss.any largeB)) ∧ w' = w := by
  have HI := hide (index_any a c ss w l h)
  generalize ss.any largeB = Z at HI ⊢
  clear h l
  go_enter Try.func42, Try.ntmps42
  go_wp2_with (go_at_call 57; refine (unhide HI).mono ?_; rintro e w1 ⟨⟨i, rfl, HE⟩, rfl⟩)
  go_ret
  exact ⟨by rw [← unhide HE]; rfl, rfl⟩

def small (X : Vc) : Prop := X.nl.length ≤ 4398046511104 ∧ X.ns.length ≤ 4398046511104 ∧ X.ss.length ≤ 4398046511104
def goodB (X : Vc) : Bool :=
  if X.k == 1 then X.ss.length == 0 && znN X.nl X.ns
  else if X.k == 2 then (X.ns.length == 0 && znS X.nl X.ss) && !X.ss.any largeB
  else false

set_option maxHeartbeats 2000000 in
theorem good_any (X : Vc) (p : Sl) (w : World) (hs : small X) (hp : VecAt w X p) :
    Calls Try.prog 14 #[vecV X p] w fun e w' => e = .returned (.bool (goodB X)) ∧ Below w.heap.size w w' := by
  rw [vecV_open]
  obtain ⟨l1, l2, l3⟩ := hs
  have HN : Hid (∀ w', Below w.heap.size w w' → Calls Try.prog 40 #[.slice p.a1 X.nl.length p.c1, .slice p.a2 X.ns.length p.c2] w' fun e w'' => e = .returned (.bool (znN X.nl X.ns)) ∧ w'' = w') :=
    fun w' hb => zeroN_any _ _ _ _ _ _ _ l1 l2 (hp.1.later hb) (hp.2.1.later hb)
  have HT : Hid (∀ w', Below w.heap.size w w' → Calls Try.prog 41 #[.slice p.a1 X.nl.length p.c1, .slice p.a3 X.ss.length p.c3] w' fun e w'' => e = .returned (.bool (znS X.nl X.ss)) ∧ w'' = w') :=
    fun w' hb => zeroS_any _ _ _ _ _ _ _ l1 l3 (hp.1.later hb) (hp.2.2.later hb)
  have HC : Hid (∀ w', Below w.heap.size w w' → Calls Try.prog 42 #[.slice p.a3 X.ss.length p.c3, .func (.func 35) #[] #[]] w' fun e w'' => e = .returned (.bool (X.ss.any largeB)) ∧ w'' = w') :=
    fun w' hb => contains_any _ _ _ _ l3 (hp.2.2.later hb)
  clear hp
  rcases Bool.eq_false_or_eq_true (X.k == 1) with k1 | k1
  · have HG : Hid (goodB X = (X.ss.length == 0 && znN X.nl X.ns)) := by show _ = _; simp [goodB, k1]
    generalize goodB X = G at HG ⊢
    by_cases z : X.ss.length = 0
    · have z' : ((X.ss.length : Int) == 0) = true := by simp [z]
      have HE : Hid (G = znN X.nl X.ns) := by show _ = _; rw [unhide HG, z]; simp
      clear z HG
      generalize znN X.nl X.ns = Z at HE HN
      go_enter Try.func14, Try.ntmps14
      go_wp2_with (go_at_call 40; refine (unhide HN _ (below_alloc (Below.refl _ _) _)).mono ?_; rintro e w1 ⟨rfl, rfl⟩)
      go_ret
      exact ⟨by rw [unhide HE]; rfl, below_alloc (Below.refl _ _) _⟩
    · have z' : ((X.ss.length : Int) == 0) = false := by simp; intro e; exact z (by rw [e]; rfl)
      have HE : Hid (G = false) := by show _ = _; rw [unhide HG]; simp; intro e; exact absurd (by rw [e]; rfl) z
      clear z HG
      go_enter Try.func14, Try.ntmps14
      go_wp2
      go_ret
      exact ⟨by rw [unhide HE]; rfl, below_alloc (Below.refl _ _) _⟩
  · rcases Bool.eq_false_or_eq_true (X.k == 2) with k2 | k2
    · have HG : Hid (goodB X = ((X.ns.length == 0 && znS X.nl X.ss) && !X.ss.any largeB)) := by show _ = _; simp [goodB, k1, k2]
      generalize goodB X = G at HG ⊢
      generalize znS X.nl X.ss = Z at HG HT
      generalize X.ss.any largeB = L at HG HC
      by_cases z : X.ns.length = 0
      · have z' : ((X.ns.length : Int) == 0) = true := by simp [z]
        have HE : Hid (G = (Z && !L)) := by show _ = _; rw [unhide HG, z]; simp
        clear z HG
        cases Z
        · go_enter Try.func14, Try.ntmps14
          go_wp2_with (go_at_call 41; refine (unhide HT _ (below_alloc (Below.refl _ _) _)).mono ?_; rintro e w1 ⟨rfl, rfl⟩)
          go_ret
          exact ⟨by rw [unhide HE]; rfl, below_alloc (Below.refl _ _) _⟩
        · go_enter Try.func14, Try.ntmps14
          go_wp2_with (first | (go_at_call 41; refine (unhide HT _ (below_alloc (Below.refl _ _) _)).mono ?_; rintro e w1 ⟨rfl, rfl⟩) | (go_at_call 42; refine (unhide HC _ (below_alloc (Below.refl _ _) _)).mono ?_; rintro e w1 ⟨rfl, rfl⟩))
          go_ret
          exact ⟨by rw [unhide HE]; rfl, below_alloc (Below.refl _ _) _⟩
      · have z' : ((X.ns.length : Int) == 0) = false := by simp; intro e; exact z (by rw [e]; rfl)
        have HE : Hid (G = false) := by show _ = _; rw [unhide HG]; simp; intro e; exact absurd (by rw [e]; rfl) z
        clear z HG
        go_enter Try.func14, Try.ntmps14
        go_wp2
        go_ret
        exact ⟨by rw [unhide HE]; rfl, below_alloc (Below.refl _ _) _⟩
    · have HE : Hid (goodB X = false) := by show _ = _; simp [goodB, k1, k2]
      generalize goodB X = G at HE ⊢
      go_enter Try.func14, Try.ntmps14
      go_wp2
      go_ret
      exact ⟨by rw [unhide HE]; rfl, below_alloc (Below.refl _ _) _⟩
end Go.Proofs.Ytihkflcdphebmab
set_option linter.unusedSimpArgs false
set_option linter.unusedVariables false
namespace Go.Proofs.Ytihkflcdphebmab
open Go.RowKit Go.Sort

def nlC (ys : List Val) (k : Nat) : List Value := (nlOf (ys.take k)).map .bool
def nC (ys : List Val) (k : Nat) : List Value := ((ys.take k).map (·.n)).map (.int .i64)
def sC (ys : List Val) (k : Nat) : List Value := ((ys.take k).map (·.s)).map .string
theorem take_one {ys : List Val} {k : Nat} {y : Val} (h : ys[k]? = some y) : ys.take (k + 1) = ys.take k ++ [y] := by
  rw [List.take_add_one, h]; rfl
theorem nlC_one {ys : List Val} {k : Nat} {y : Val} (h : ys[k]? = some y) : nlC ys (k + 1) = nlC ys k ++ [.bool (y.k == 0)] := by simp [nlC, nlOf, take_one h]
theorem nC_one {ys : List Val} {k : Nat} {y : Val} (h : ys[k]? = some y) : nC ys (k + 1) = nC ys k ++ [.int .i64 y.n] := by simp [nC, take_one h]
theorem sC_one {ys : List Val} {k : Nat} {y : Val} (h : ys[k]? = some y) : sC ys (k + 1) = sC ys k ++ [.string y.s] := by simp [sC, take_one h]
theorem nlC_len (ys : List Val) (k : Nat) : (nlC ys k).length ≤ ys.length := by simp [nlC, nlOf]; omega
theorem nC_len (ys : List Val) (k : Nat) : (nC ys k).length ≤ ys.length := by simp [nC]; omega
theorem sC_len (ys : List Val) (k : Nat) : (sC ys k).length ≤ ys.length := by simp [sC]; omega
theorem own_shape {w : World} {base e size : Nat} {v : Value} {m : Nat} {xs : List Value} (h : w.ownsRow base e size v m xs) : ∃ a c, v = .slice a m c := by
  rcases h.2 with ⟨rfl, rfl⟩ | ⟨g, cap, cur, rfl, _⟩
  · exact ⟨none, 0, rfl⟩
  · exact ⟨_, _, rfl⟩
theorem TI.boxg1 {w0 w w1 : World} {kind : Int} {s1 s2 s3 so : Value} {t : Nat} {c1 co : List Value} {o : Obj} (h : TI w0 w kind s1 s2 s3 so t c1 co) (hg : (w.alloc o).grownBy w1 s1.ownBlock) : w1.rowIs (w0.heap.size + 1) 27 4 (box4 (.int .i64 kind) s1 s2 s3) :=
  rowIs_grown (h.box.alloc o) hg (own_ne (h.box.alloc o) (h.own1.alloc o) (by decide))
theorem TI.boxg2 {w0 w w1 : World} {kind : Int} {s1 s2 s3 so : Value} {t : Nat} {c1 co : List Value} {o : Obj} (h : TI w0 w kind s1 s2 s3 so t c1 co) (ht : 27 ≠ t) (hg : (w.alloc o).grownBy w1 so.ownBlock) : w1.rowIs (w0.heap.size + 1) 27 4 (box4 (.int .i64 kind) s1 s2 s3) :=
  rowIs_grown (h.box.alloc o) hg (own_ne (h.box.alloc o) (h.own2.alloc o) ht)
theorem TI.start (w : World) (kind : Int) (t : Nat) :
    TI w ((w.alloc (.cells #[.int .i64 0, .slice none 0 0, .slice none 0 0, .slice none 0 0] 27)).alloc (.cells #[.int .i64 kind, .slice none 0 0, .slice none 0 0, .slice none 0 0] 27)) kind noS noS noS noS t [] [] := by
  refine ⟨by repeat (first | exact Below.refl _ _ | refine Below.alloc ?_ (by simp <;> omega) _), (World.rowIs_alloc w _ 27 _ (box4_arr _ _ _ _)).alloc _, ?_, World.ownsRow_nil _ _ _ _, World.ownsRow_nil _ _ _ _⟩
  have h := World.rowIs_alloc (w.alloc (.cells #[.int .i64 0, .slice none 0 0, .slice none 0 0, .slice none 0 0] 27)) _ 27 _ (box4_arr (.int .i64 kind) (.slice none 0 0) (.slice none 0 0) (.slice none 0 0))
  simpa [noS] using h

set_option maxHeartbeats 4000000 in
theorem rfrom_int (a : Option Addr) (c : Nat) (xs : List Val) (w : World) (hl : xs.length * 32 ≤ 140737488351232) (ha : RowAt w a xs) :
    Calls Try.prog 8 #[.int .i64 1, .slice a xs.length c] w fun e w' => ∃ p, e = .returned (.tuple #[vecV (fromV 1 xs).1 p, .int .i64 (fromV 1 xs).2]) ∧ VecAt w' (fromV 1 xs).1 p ∧ Fresh w.heap.size p ∧ Below w.heap.size w w' := by
  obtain ⟨i4, hi4, z40, z41, z42⟩ := info_parts Try.info4
  obtain ⟨i2, hi2, z20, z21, z22⟩ := info_parts Try.info2
  generalize hX : fromV 1 xs = X
  have HX := hide hX
  clear hX
  have HA := hide ha
  clear ha
  obtain ⟨ys, hys⟩ : ∃ ys, ys = xs.map cleanV := ⟨_, rfl⟩
  have HY := hide hys
  have hyl : ys.length = xs.length := by rw [hys]; simp
  have HYL := hide hyl
  clear hys hyl
  go_enter Try.func8, Try.ntmps8
  go_wp2_with fail
  go_loopw [21, 7] (fun i l wr => ∃ (k : Nat) (L : Bool) (s1 s2 : Value), k ≤ xs.length ∧ i = .int .i64 k ∧ l = .bool L ∧ Hid (∀ i y, i < k → ys[i]? = some y → badK 1 y = false) ∧ Hid (L = (ys.take k).any (fun y => largeB y.s)) ∧ TI w wr 1 s1 s2 noS s2 2 (nlC ys k) (nC ys k)) (fun i _ _ => xs.length - (intOf i).toNat)
  case atStart => exact ⟨0, false, noS, noS, Nat.zero_le _, rfl, rfl, fun i y h => by omega, rfl, TI.start _ _ _⟩
  case round =>
    obtain ⟨k, L, s1, s2, hkl, rfl, rfl, HN, HL, hI⟩ := hrel
    by_cases h1 : k < xs.length
    · obtain ⟨x, hx'⟩ : ∃ x, xs[k]? = some x := ⟨_, List.getElem?_eq_getElem h1⟩
      rcases (unhide HA).later hI.below with e | ⟨ba, oa, rfl, hca⟩
      · subst e; simp at h1
      obtain ⟨c0, c1, c2⟩ := hca k x hx'
      obtain ⟨y, hy⟩ : ∃ y, y = cleanV x := ⟨_, rfl⟩
      have HC : Hid (∀ w, Calls Try.prog 37 #[x.v] w fun e w' => e = .returned y.v ∧ Below w.heap.size w w') := by rw [hy]; exact rclean_any x
      have HS : Hid (ys[k]? = some y) := by show _ = _; rw [unhide HY, hy]; simp [hx']
      have i1 : (k : Int) < (xs.length : Int) := by omega
      have hsz : w.heap.size + 1 < wr.heap.size := hI.box.lt
      have HI := hide hI
      clear hca hx' hI hy
      go_upto_region 8 with fail
      go_cut [] (fun wx => TI w wx 1 s1 s2 noS s2 2 (nlC ys k) (nC ys k) ∧ wx.rowIs wr.heap.size 40 3 (box3 y))
      case first =>
        have hI1 := (unhide HI).later (below_alloc (Below.refl _ wr) (.cells #[.int .i64 x.k, .int .i64 x.n, .string x.s] 40))
        have hv1 := box3_alloc wr x
        go_wp2_with (go_at_call 37; refine (unhide HC _).mono ?_; rintro e w1 ⟨rfl, hb1⟩; rw [Val.open_]; have hv2 := rowIs_later hv1 hb1; obtain ⟨p0, p1, p2, q0, q1, q2⟩ := box3_facts hv2)
        go_meet
        exact ⟨(hI1.later hb1).set3 hv2 (by decide) (by omega) y, box3_set hv2⟩
      case rest =>
        obtain ⟨hIx, hvx⟩ := hcut
        rename World => wx
        have HIx := hide hIx
        have HVx := hide hvx
        obtain ⟨p0, p1, p2, q0, q1, q2⟩ := box3_facts hvx
        obtain ⟨r0, r1, r2, r3, f0, f1, f2, f3⟩ := box_facts hIx.res
        clear hIx hvx HC HI c0 c1 c2
        go_upto_region 9 with fail
        go_cut [35] (fun s35 wy => (∃ bb, s35 = .bool bb ∧ Hid (bb = badK 1 y)) ∧ wy = wx)
        case first =>
          rcases Bool.eq_false_or_eq_true (y.k != 0) with e1 | e1
          · go_wp2
            go_meet
            exact ⟨⟨_, rfl, by show _ = _; simp [badK, e1]⟩, rfl⟩
          · go_wp2
            go_meet
            exact ⟨⟨_, rfl, by show _ = _; simp [badK, e1]⟩, rfl⟩
        case rest =>
          obtain ⟨⟨bb, rfl, HBB⟩, rfl⟩ := hcut
          cases bb
          rotate_left
          · have eb := (unhide HBB).symm
            have HE : Hid (X = (Vc.zero, 4)) := by
              show _ = _
              rw [← unhide HX, fromV, if_neg (by simp [kindB]), ← unhide HY, if_pos (any_hit (unhide HS) eb)]
            clear eb
            go_wp2
            refine bodyPost_ret (v := .tuple #[zeroVec, .int .i64 4]) (by simp [results, Try.results8, go_sem, zeroVec, *]) rfl ?_
            exact refused (unhide HE) (below_set4 (unhide HIx).below (Nat.le_refl _) _ _ _ _)
          · have HP := hide (none_step (unhide HN) (unhide HS) (unhide HBB).symm)
            clear HN r0 r1 r2 r3 f0 f1 f2 f3
            go_upto_region 11 with fail
            go_cut [7] (fun s7 wy => s7 = .bool (L || largeB y.s) ∧ wy = wc)
            case first =>
              cases L
              · go_wp2
                go_meet
                exact ⟨rfl, rfl⟩
              · go_wp2
                go_meet
                exact ⟨rfl, rfl⟩
            case rest =>
              obtain ⟨rfl, rfl⟩ := hcut
              have HQ : Hid ((L || largeB y.s) = (ys.take (k + 1)).any (fun y => largeB y.s)) := by
                show _ = _
                rw [take_one (unhide HS), List.any_append, ← unhide HL]; simp
              generalize hL' : (L || largeB y.s) = L' at HQ ⊢
              clear hL' HL
              obtain ⟨b0, b1, b2, b3, g0, g1, g2, g3⟩ := box_facts (unhide HIx).box
              have HL1 := hide (nlC_len ys k)
              have HL2 := hide (nC_len ys k)
              go_upto_region 12 with fail
              have hbz : w.heap.size + 1 < wc.heap.size := (unhide HIx).box.lt
              have HYL2 : Hid (ys.length * 32 ≤ 140737488351232) := by show _ ≤ _; rw [unhide HYL]; exact hl
              go_cut [] (fun wy => ∃ s1', TI w wy 1 s1' s2 noS s2 2 (nlC ys (k + 1)) (nC ys k) ∧ wy.rowIs wr.heap.size 40 3 (box3 y))
              case first =>
                go_wp2_with (at_builtin; refine wpList_append_own_at _ rfl (.tmp 45) (.tmp 49) 23 rfl (w.heap.size + 1 + 1) 4 i4 (.bool false) 1 1 Try.underlying23 hi4 z40 z41 z42 rfl (by decide) _ _ _ rfl (World.ownsRow.alloc (unhide HIx).own1 _) ⟨wc.heap.size, 0, none⟩ 1 1 [.bool (y.k == 0)] rfl rfl (cell_one_new _ _ _) (by intro u hu; simp at hu; subst hu; rfl) (by have := unhide HL1; have := unhide HYL2; unfold maxLen; omega) (by have := unhide HL1; have := unhide HYL2; omega) (by simp; omega) ?_; intro v1 w1 hown1 hgrow1 _ hat1; obtain ⟨ad1, cp1, rfl⟩ := own_shape hown1; have hgr : (wc.alloc (.cells #[.bool (y.k == 0)] 4)).grownBy w1 s1.ownBlock := hgrow1; clear hgrow1 hat1; obtain ⟨bb0, bb1, bb2, bb3, gg0, gg1, gg2, gg3⟩ := box_facts ((unhide HIx).boxg1 hgr))
                go_meet
                obtain ⟨h1', h2', _⟩ := (unhide HIx).app1 (unhide HVx) (by decide) (by decide) hown1 hgr
                exact ⟨_, by rw [nlC_one (unhide HS)]; exact h1', h2'⟩
              case rest =>
                obtain ⟨s1', hIy, hvy⟩ := hcut
                rename World => wy
                clear b0 b1 b2 b3 g0 g1 g2 g3 p0 p1 p2 q0 q1 q2 HIx HVx hbz
                have HIy := hide hIy
                obtain ⟨p0, p1, p2, q0, q1, q2⟩ := box3_facts hvy
                obtain ⟨b0, b1, b2, b3, g0, g1, g2, g3⟩ := box_facts hIy.box
                have hbz : w.heap.size + 1 < wy.heap.size := hIy.box.lt
                clear hIy hvy
                go_wp2_with (at_builtin; refine wpList_append_own_at _ rfl (.tmp 55) (.tmp 58) 24 rfl (w.heap.size + 1 + 1) 2 i2 (.int .i64 0) 1 8 Try.underlying24 hi2 z20 z21 z22 rfl (by decide) _ _ _ rfl (World.ownsRow.alloc (unhide HIy).own2 _) ⟨wy.heap.size, 0, none⟩ 1 1 [.int .i64 y.n] rfl rfl (cell_one_new _ _ _) (by intro u hu; simp at hu; subst hu; rfl) (by have := unhide HL2; have := unhide HYL2; unfold maxLen; omega) (by have := unhide HL2; have := unhide HYL2; omega) (by simp; omega) ?_; intro v1 w1 hown1 hgrow1 _ hat1; obtain ⟨ad1, cp1, rfl⟩ := own_shape hown1; have hgr : (wy.alloc (.cells #[.int .i64 y.n] 2)).grownBy w1 s2.ownBlock := hgrow1; clear hgrow1 hat1; obtain ⟨bb0, bb1, bb2, bb3, gg0, gg1, gg2, gg3⟩ := box_facts ((unhide HIy).boxg2 (by decide) hgr))
                go_roundw
                case rel => exact ⟨k + 1, L', s1', _, by omega, by go_num, rfl, HP, HQ, by rw [nC_one (unhide HS)]; exact (unhide HIy).app2 hown1 hgr⟩
                case measure => simp [intOf]; omega
    · have e : k = xs.length := by omega
      have i1 : ¬ (k : Int) < (xs.length : Int) := by omega
      have HB : Hid (ys.any (badK 1) = false) := any_none (by rw [unhide HYL, ← e]; exact unhide HN)
      have HLL : Hid (L = ys.any (fun y => largeB y.s)) := by
        have := unhide HL
        rw [e, ← unhide HYL, List.take_length] at this
        exact this
      have HF : Hid (nlC ys k = (nlOf ys).map .bool ∧ nC ys k = (ys.map (·.n)).map (.int .i64)) := by
        unfold nlC nC
        rw [e, ← unhide HYL, List.take_length]
        exact ⟨rfl, rfl⟩
      obtain ⟨a1, c1, rfl, hl1, hf1⟩ := lis_of_own hI.own1
      obtain ⟨a2, c2, rfl, hl2, hf2⟩ := lis_of_own hI.own2
      rw [(unhide HF).1] at hl1
      rw [(unhide HF).2] at hl2
      have e1 : ((nlOf ys).map Value.bool).length = xs.length := by rw [← unhide HYL]; simp [nlOf]
      have e2 : ((ys.map (·.n)).map (Value.int .i64)).length = xs.length := by rw [← unhide HYL]; simp
      rw [(unhide HF).1, (unhide HF).2, e1, e2] at hI
      have HI := hide hI
      have HL1 := hide hl1
      have HL2 := hide hl2
      have HF1 := hide hf1
      have HF2 := hide hf2
      obtain ⟨r0, r1, r2, r3, f0, f1, f2, f3⟩ := box_facts hI.res
      obtain ⟨b0, b1, b2, b3, g0, g1, g2, g3⟩ := box_facts hI.box
      have b3' : wr.cell? ⟨w.heap.size + 1, 3, none⟩ = some (.slice none 0 0) := b3
      clear hI e hl1 hl2 hf1 hf2 b3 e1 e2
      cases L
      · have HE : Hid (X = (laidV 1 ys, 0)) := by
          show _ = _
          rw [← unhide HX, fromV, if_neg (by simp [kindB]), ← unhide HY, if_neg (by rw [unhide HB]; simp), if_neg (by rw [← unhide HLL]; simp)]
        go_wp2
        refine bodyPost_ret (v := .tuple #[.agg #[.int .i64 1, .slice a1 xs.length c1, .slice a2 xs.length c2, .slice none 0 0], .int .i64 0]) (by simp [results, Try.results8, go_sem, *]) rfl ?_
        rw [unhide HE]
        refine ⟨⟨a1, c1, a2, c2, none, 0⟩, ?_, ?_, ?_, below_set4 (unhide HI).below (Nat.le_refl _) _ _ _ _⟩
        · rw [vecV_open]; simp [laidV, nlOf, unhide HYL]
        · exact VecAt.setO4 (X := laidV 1 ys) (p := ⟨a1, c1, a2, c2, none, 0⟩) (base := w.heap.size + 1 + 1) ⟨unhide HL1, unhide HL2, .inl rfl⟩ ⟨unhide HF1, unhide HF2, by simp⟩ (by omega) _ _ _ _
        · exact Fresh.less (c := w.heap.size + 1 + 1) ⟨unhide HF1, unhide HF2, by simp⟩ (by omega)
      · have HE : Hid (X = (Vc.zero, 3)) := by
          show _ = _
          rw [← unhide HX, fromV, if_neg (by simp [kindB]), ← unhide HY, if_neg (by rw [unhide HB]; simp), if_pos (unhide HLL).symm]
        go_wp2
        refine bodyPost_ret (v := .tuple #[zeroVec, .int .i64 3]) (by simp [results, Try.results8, go_sem, zeroVec, *]) rfl ?_
        exact refused (unhide HE) (below_set4 (unhide HI).below (Nat.le_refl _) _ _ _ _)
end Go.Proofs.Ytihkflcdphebmab
set_option linter.unusedSimpArgs false
set_option linter.unusedVariables false
namespace Go.Proofs.Ytihkflcdphebmab
open Go.RowKit Go.Sort

set_option maxHeartbeats 4000000 in
theorem rfrom_text (a : Option Addr) (c : Nat) (xs : List Val) (w : World) (hl : xs.length * 32 ≤ 140737488351232) (ha : RowAt w a xs) :
    Calls Try.prog 8 #[.int .i64 2, .slice a xs.length c] w fun e w' => ∃ p, e = .returned (.tuple #[vecV (fromV 2 xs).1 p, .int .i64 (fromV 2 xs).2]) ∧ VecAt w' (fromV 2 xs).1 p ∧ Fresh w.heap.size p ∧ Below w.heap.size w w' := by
  obtain ⟨i4, hi4, z40, z41, z42⟩ := info_parts Try.info4
  obtain ⟨i2, hi2, z20, z21, z22⟩ := info_parts Try.info9
  generalize hX : fromV 2 xs = X
  have HX := hide hX
  clear hX
  have HA := hide ha
  clear ha
  obtain ⟨ys, hys⟩ : ∃ ys, ys = xs.map cleanV := ⟨_, rfl⟩
  have HY := hide hys
  have hyl : ys.length = xs.length := by rw [hys]; simp
  have HYL := hide hyl
  clear hys hyl
  go_enter Try.func8, Try.ntmps8
  go_wp2_with fail
  go_loopw [21, 7] (fun i l wr => ∃ (k : Nat) (L : Bool) (s1 s2 : Value), k ≤ xs.length ∧ i = .int .i64 k ∧ l = .bool L ∧ Hid (∀ i y, i < k → ys[i]? = some y → badK 2 y = false) ∧ Hid (L = (ys.take k).any (fun y => largeB y.s)) ∧ TI w wr 2 s1 noS s2 s2 9 (nlC ys k) (sC ys k)) (fun i _ _ => xs.length - (intOf i).toNat)
  case atStart => exact ⟨0, false, noS, noS, Nat.zero_le _, rfl, rfl, fun i y h => by omega, rfl, TI.start _ _ _⟩
  case round =>
    obtain ⟨k, L, s1, s2, hkl, rfl, rfl, HN, HL, hI⟩ := hrel
    by_cases h1 : k < xs.length
    · obtain ⟨x, hx'⟩ : ∃ x, xs[k]? = some x := ⟨_, List.getElem?_eq_getElem h1⟩
      rcases (unhide HA).later hI.below with e | ⟨ba, oa, rfl, hca⟩
      · subst e; simp at h1
      obtain ⟨c0, c1, c2⟩ := hca k x hx'
      obtain ⟨y, hy⟩ : ∃ y, y = cleanV x := ⟨_, rfl⟩
      have HC : Hid (∀ w, Calls Try.prog 37 #[x.v] w fun e w' => e = .returned y.v ∧ Below w.heap.size w w') := by rw [hy]; exact rclean_any x
      have HS : Hid (ys[k]? = some y) := by show _ = _; rw [unhide HY, hy]; simp [hx']
      have i1 : (k : Int) < (xs.length : Int) := by omega
      have hsz : w.heap.size + 1 < wr.heap.size := hI.box.lt
      have HI := hide hI
      clear hca hx' hI hy
      go_upto_region 8 with fail
      go_cut [] (fun wx => TI w wx 2 s1 noS s2 s2 9 (nlC ys k) (sC ys k) ∧ wx.rowIs wr.heap.size 40 3 (box3 y))
      case first =>
        have hI1 := (unhide HI).later (below_alloc (Below.refl _ wr) (.cells #[.int .i64 x.k, .int .i64 x.n, .string x.s] 40))
        have hv1 := box3_alloc wr x
        go_wp2_with (go_at_call 37; refine (unhide HC _).mono ?_; rintro e w1 ⟨rfl, hb1⟩; rw [Val.open_]; have hv2 := rowIs_later hv1 hb1; obtain ⟨p0, p1, p2, q0, q1, q2⟩ := box3_facts hv2)
        go_meet
        exact ⟨(hI1.later hb1).set3 hv2 (by decide) (by omega) y, box3_set hv2⟩
      case rest =>
        obtain ⟨hIx, hvx⟩ := hcut
        rename World => wx
        have HIx := hide hIx
        have HVx := hide hvx
        obtain ⟨p0, p1, p2, q0, q1, q2⟩ := box3_facts hvx
        obtain ⟨r0, r1, r2, r3, f0, f1, f2, f3⟩ := box_facts hIx.res
        clear hIx hvx HC HI c0 c1 c2
        go_upto_region 9 with fail
        go_cut [35] (fun s35 wy => (∃ bb, s35 = .bool bb ∧ Hid (bb = badK 2 y)) ∧ wy = wx)
        case first =>
          rcases Bool.eq_false_or_eq_true (y.k != 0) with e1 | e1
          · go_wp2
            go_meet
            exact ⟨⟨_, rfl, by show _ = _; simp [badK, e1]⟩, rfl⟩
          · go_wp2
            go_meet
            exact ⟨⟨_, rfl, by show _ = _; simp [badK, e1]⟩, rfl⟩
        case rest =>
          obtain ⟨⟨bb, rfl, HBB⟩, rfl⟩ := hcut
          cases bb
          rotate_left
          · have eb := (unhide HBB).symm
            have HE : Hid (X = (Vc.zero, 4)) := by
              show _ = _
              rw [← unhide HX, fromV, if_neg (by simp [kindB]), ← unhide HY, if_pos (any_hit (unhide HS) eb)]
            clear eb
            go_wp2
            refine bodyPost_ret (v := .tuple #[zeroVec, .int .i64 4]) (by simp [results, Try.results8, go_sem, zeroVec, *]) rfl ?_
            exact refused (unhide HE) (below_set4 (unhide HIx).below (Nat.le_refl _) _ _ _ _)
          · have HP := hide (none_step (unhide HN) (unhide HS) (unhide HBB).symm)
            clear HN r0 r1 r2 r3 f0 f1 f2 f3
            go_upto_region 11 with fail
            go_cut [7] (fun s7 wy => s7 = .bool (L || largeB y.s) ∧ wy = wc)
            case first =>
              cases L
              · go_wp2
                go_meet
                exact ⟨rfl, rfl⟩
              · go_wp2
                go_meet
                exact ⟨rfl, rfl⟩
            case rest =>
              obtain ⟨rfl, rfl⟩ := hcut
              have HQ : Hid ((L || largeB y.s) = (ys.take (k + 1)).any (fun y => largeB y.s)) := by
                show _ = _
                rw [take_one (unhide HS), List.any_append, ← unhide HL]; simp
              generalize hL' : (L || largeB y.s) = L' at HQ ⊢
              clear hL' HL
              obtain ⟨b0, b1, b2, b3, g0, g1, g2, g3⟩ := box_facts (unhide HIx).box
              have HL1 := hide (nlC_len ys k)
              have HL2 := hide (sC_len ys k)
              go_upto_region 12 with fail
              have hbz : w.heap.size + 1 < wc.heap.size := (unhide HIx).box.lt
              have HYL2 : Hid (ys.length * 32 ≤ 140737488351232) := by show _ ≤ _; rw [unhide HYL]; exact hl
              go_cut [] (fun wy => ∃ s1', TI w wy 2 s1' noS s2 s2 9 (nlC ys (k + 1)) (sC ys k) ∧ wy.rowIs wr.heap.size 40 3 (box3 y))
              case first =>
                go_wp2_with (at_builtin; refine wpList_append_own_at _ rfl (.tmp 45) (.tmp 49) 23 rfl (w.heap.size + 1 + 1) 4 i4 (.bool false) 1 1 Try.underlying23 hi4 z40 z41 z42 rfl (by decide) _ _ _ rfl (World.ownsRow.alloc (unhide HIx).own1 _) ⟨wc.heap.size, 0, none⟩ 1 1 [.bool (y.k == 0)] rfl rfl (cell_one_new _ _ _) (by intro u hu; simp at hu; subst hu; rfl) (by have := unhide HL1; have := unhide HYL2; unfold maxLen; omega) (by have := unhide HL1; have := unhide HYL2; omega) (by simp; omega) ?_; intro v1 w1 hown1 hgrow1 _ hat1; obtain ⟨ad1, cp1, rfl⟩ := own_shape hown1; have hgr : (wc.alloc (.cells #[.bool (y.k == 0)] 4)).grownBy w1 s1.ownBlock := hgrow1; clear hgrow1 hat1; obtain ⟨bb0, bb1, bb2, bb3, gg0, gg1, gg2, gg3⟩ := box_facts ((unhide HIx).boxg1 hgr))
                go_meet
                obtain ⟨h1', h2', _⟩ := (unhide HIx).app1 (unhide HVx) (by decide) (by decide) hown1 hgr
                exact ⟨_, by rw [nlC_one (unhide HS)]; exact h1', h2'⟩
              case rest =>
                obtain ⟨s1', hIy, hvy⟩ := hcut
                rename World => wy
                clear b0 b1 b2 b3 g0 g1 g2 g3 p0 p1 p2 q0 q1 q2 HIx HVx hbz
                have HIy := hide hIy
                obtain ⟨p0, p1, p2, q0, q1, q2⟩ := box3_facts hvy
                obtain ⟨b0, b1, b2, b3, g0, g1, g2, g3⟩ := box_facts hIy.box
                have hbz : w.heap.size + 1 < wy.heap.size := hIy.box.lt
                clear hIy hvy
                go_wp2_with (at_builtin; refine wpList_append_own_at _ rfl (.tmp 62) (.tmp 65) 25 rfl (w.heap.size + 1 + 1) 9 i2 (.string ⟨#[]⟩) 1 16 Try.underlying25 hi2 z20 z21 z22 rfl (by decide) _ _ _ rfl (World.ownsRow.alloc (unhide HIy).own2 _) ⟨wy.heap.size, 0, none⟩ 1 1 [.string y.s] rfl rfl (cell_one_new _ _ _) (by intro u hu; simp at hu; subst hu; rfl) (by have := unhide HL2; have := unhide HYL2; unfold maxLen; omega) (by have := unhide HL2; have := unhide HYL2; omega) (by simp; omega) ?_; intro v1 w1 hown1 hgrow1 _ hat1; obtain ⟨ad1, cp1, rfl⟩ := own_shape hown1; have hgr : (wy.alloc (.cells #[.string y.s] 9)).grownBy w1 s2.ownBlock := hgrow1; clear hgrow1 hat1; obtain ⟨bb0, bb1, bb2, bb3, gg0, gg1, gg2, gg3⟩ := box_facts ((unhide HIy).boxg2 (by decide) hgr))
                go_roundw
                case rel => exact ⟨k + 1, L', s1', _, by omega, by go_num, rfl, HP, HQ, by rw [sC_one (unhide HS)]; exact (unhide HIy).app3 hown1 hgr⟩
                case measure => simp [intOf]; omega
    · have e : k = xs.length := by omega
      have i1 : ¬ (k : Int) < (xs.length : Int) := by omega
      have HB : Hid (ys.any (badK 2) = false) := any_none (by rw [unhide HYL, ← e]; exact unhide HN)
      have HLL : Hid (L = ys.any (fun y => largeB y.s)) := by
        have := unhide HL
        rw [e, ← unhide HYL, List.take_length] at this
        exact this
      have HF : Hid (nlC ys k = (nlOf ys).map .bool ∧ sC ys k = (ys.map (·.s)).map .string) := by
        unfold nlC sC
        rw [e, ← unhide HYL, List.take_length]
        exact ⟨rfl, rfl⟩
      obtain ⟨a1, c1, rfl, hl1, hf1⟩ := lis_of_own hI.own1
      obtain ⟨a2, c2, rfl, hl2, hf2⟩ := lis_of_own hI.own2
      rw [(unhide HF).1] at hl1
      rw [(unhide HF).2] at hl2
      have e1 : ((nlOf ys).map Value.bool).length = xs.length := by rw [← unhide HYL]; simp [nlOf]
      have e2 : ((ys.map (·.s)).map Value.string).length = xs.length := by rw [← unhide HYL]; simp
      rw [(unhide HF).1, (unhide HF).2, e1, e2] at hI
      have HI := hide hI
      have HL1 := hide hl1
      have HL2 := hide hl2
      have HF1 := hide hf1
      have HF2 := hide hf2
      obtain ⟨r0, r1, r2, r3, f0, f1, f2, f3⟩ := box_facts hI.res
      obtain ⟨b0, b1, b2, b3, g0, g1, g2, g3⟩ := box_facts hI.box
      have b3' : wr.cell? ⟨w.heap.size + 1, 2, none⟩ = some (.slice none 0 0) := b2
      clear hI e hl1 hl2 hf1 hf2 b2 e1 e2
      cases L
      · have HE : Hid (X = (laidV 2 ys, 0)) := by
          show _ = _
          rw [← unhide HX, fromV, if_neg (by simp [kindB]), ← unhide HY, if_neg (by rw [unhide HB]; simp), if_neg (by rw [← unhide HLL]; simp)]
        go_wp2
        refine bodyPost_ret (v := .tuple #[.agg #[.int .i64 2, .slice a1 xs.length c1, .slice none 0 0, .slice a2 xs.length c2], .int .i64 0]) (by simp [results, Try.results8, go_sem, *]) rfl ?_
        rw [unhide HE]
        refine ⟨⟨a1, c1, none, 0, a2, c2⟩, ?_, ?_, ?_, below_set4 (unhide HI).below (Nat.le_refl _) _ _ _ _⟩
        · rw [vecV_open]; simp [laidV, nlOf, unhide HYL]
        · exact VecAt.setO4 (X := laidV 2 ys) (p := ⟨a1, c1, none, 0, a2, c2⟩) (base := w.heap.size + 1 + 1) ⟨unhide HL1, .inl rfl, unhide HL2⟩ ⟨unhide HF1, by simp, unhide HF2⟩ (by omega) _ _ _ _
        · exact Fresh.less (c := w.heap.size + 1 + 1) ⟨unhide HF1, by simp, unhide HF2⟩ (by omega)
      · have HE : Hid (X = (Vc.zero, 3)) := by
          show _ = _
          rw [← unhide HX, fromV, if_neg (by simp [kindB]), ← unhide HY, if_neg (by rw [unhide HB]; simp), if_pos (unhide HLL).symm]
        go_wp2
        refine bodyPost_ret (v := .tuple #[zeroVec, .int .i64 3]) (by simp [results, Try.results8, go_sem, zeroVec, *]) rfl ?_
        exact refused (unhide HE) (below_set4 (unhide HI).below (Nat.le_refl _) _ _ _ _)

set_option maxHeartbeats 1000000 in
theorem rfrom_other (a : Option Addr) (c : Nat) (kind : Int) (xs : List Val) (w : World) (h1 : (kind != 1) = true) (h2 : (kind != 2) = true) :
    Calls Try.prog 8 #[.int .i64 kind, .slice a xs.length c] w fun e w' => ∃ p, e = .returned (.tuple #[vecV (fromV kind xs).1 p, .int .i64 (fromV kind xs).2]) ∧ VecAt w' (fromV kind xs).1 p ∧ Fresh w.heap.size p ∧ Below w.heap.size w w' := by
  have HE : Hid (fromV kind xs = (Vc.zero, 1)) := by
    show _ = _
    rw [fromV, if_pos (by simp at h1 h2; simp [kindB, h1, h2])]
  generalize fromV kind xs = X at HE ⊢
  go_enter Try.func8, Try.ntmps8
  go_wp2
  refine bodyPost_ret (v := .tuple #[zeroVec, .int .i64 1]) (by simp [results, Try.results8, go_sem, zeroVec, *]) rfl ?_
  exact refused (unhide HE) (by repeat (first | exact Below.refl _ _ | refine Below.alloc ?_ (by simp <;> omega) _ | refine Below.setCell ?_ (by simp <;> omega) _))
theorem rfrom_any (a : Option Addr) (c : Nat) (kind : Int) (xs : List Val) (w : World) (hl : xs.length * 32 ≤ 140737488351232) (ha : RowAt w a xs) :
    Calls Try.prog 8 #[.int .i64 kind, .slice a xs.length c] w fun e w' => ∃ p, e = .returned (.tuple #[vecV (fromV kind xs).1 p, .int .i64 (fromV kind xs).2]) ∧ VecAt w' (fromV kind xs).1 p ∧ Fresh w.heap.size p ∧ Below w.heap.size w w' := by
  by_cases h1 : kind = 1
  · subst h1; exact rfrom_int a c xs w hl ha
  · by_cases h2 : kind = 2
    · subst h2; exact rfrom_text a c xs w hl ha
    · exact rfrom_other a c kind xs w (by simpa using h1) (by simpa using h2)
end Go.Proofs.Ytihkflcdphebmab
set_option linter.unusedSimpArgs false
set_option linter.unusedVariables false
namespace Go.Proofs.Ytihkflcdphebmab
open Go.RowKit Go.Sort
theorem box4_alloc (w : World) (a b c d : Value) : (w.alloc (.cells #[a, b, c, d] 27)).rowIs w.heap.size 27 4 (box4 a b c d) := World.rowIs_alloc w _ 27 _ (box4_arr _ _ _ _)

def boxV (w : World) (X : Vc) (p : Sl) : World := w.alloc (.cells #[.int .i64 X.k, .slice p.a1 X.nl.length p.c1, .slice p.a2 X.ns.length p.c2, .slice p.a3 X.ss.length p.c3] 27)
theorem boxV_facts {w w' : World} {X : Vc} {p : Sl} (h : Below (boxV w X p).heap.size (boxV w X p) w') :
    (w'.cell? ⟨w.heap.size, 0, none⟩ = some (.int .i64 X.k) ∧ w'.cell? ⟨w.heap.size, 1, none⟩ = some (.slice p.a1 X.nl.length p.c1) ∧ w'.cell? ⟨w.heap.size, 2, none⟩ = some (.slice p.a2 X.ns.length p.c2) ∧ w'.cell? ⟨w.heap.size, 3, none⟩ = some (.slice p.a3 X.ss.length p.c3)) ∧ Below w.heap.size w w' ∧ w.heap.size < w'.heap.size := by
  have hr := rowIs_later (box4_alloc w (.int .i64 X.k) (.slice p.a1 X.nl.length p.c1) (.slice p.a2 X.ns.length p.c2) (.slice p.a3 X.ss.length p.c3)) h
  obtain ⟨r0, r1, r2, r3, _⟩ := box_facts hr
  exact ⟨⟨r0, r1, r2, r3⟩, below_one h, hr.lt⟩

theorem goodN_of {X : Vc} (k1 : (X.k == 1) = true) (z : X.ss.length = 0) (e : X.ns.length = X.nl.length) : goodB X = !(X.nl.zip X.ns).any badN := by simp [goodB, k1, z, znN, e]
theorem goodN_no1 {X : Vc} (k1 : (X.k == 1) = true) (e : X.ns.length ≠ X.nl.length) : goodB X = false := by
  simp only [goodB, k1, if_true, znN]
  rw [beq_false_of_ne (fun h => e h.symm)]; simp
theorem goodN_no2 {X : Vc} (k1 : (X.k == 1) = true) (z : X.ss.length ≠ 0) : goodB X = false := by
  simp only [goodB, k1, if_true]
  rw [beq_false_of_ne z]; rfl

set_option maxHeartbeats 4000000 in
theorem rgood_int (X : Vc) (p : Sl) (w : World) (hs : small X) (hp : VecAt w X p) (k1 : (X.k == 1) = true) :
    Calls Try.prog 11 #[vecV X p] w fun e w' => e = .returned (.bool (goodB X)) ∧ Below w.heap.size w w' := by
  rw [vecV_open]
  obtain ⟨l1, l2, l3⟩ := hs
  have k2 : (X.k == 2) = false := by have := beq_iff_eq.1 k1; rw [this]; rfl
  have k3 : (X.k != 1) = false := by simpa using k1
  by_cases e1 : X.ns.length = X.nl.length
  · by_cases z : X.ss.length = 0
    · have HG := hide (goodN_of k1 z e1)
      have z' : ((X.ss.length : Int) != 0) = false := by simp [z]
      have e1' : ((X.ns.length : Int) != (X.nl.length : Int)) = false := by simp [e1]
      have HZL : Hid ((X.nl.zip X.ns).length = X.nl.length) := by show _ = _; simp [e1]
      have HNS := hide e1
      have HP := hide hp
      obtain ⟨W1, hW1⟩ : ∃ W1, W1 = boxV w X p := ⟨_, rfl⟩
      have HW1 := hide hW1
      obtain ⟨⟨r0, r1, r2, r3⟩, hbw, hzw⟩ := boxV_facts (Below.refl (boxV w X p).heap.size (boxV w X p))
      rw [← hW1] at r0 r1 r2 r3 hbw hzw
      have HBW := hide hbw
      generalize goodB X = G at HG ⊢
      clear z e1 hp hbw
      go_enter Try.func11, Try.ntmps11
      go_wp2_with fail
      go_loopw [40] (fun i wr => ∃ k : Nat, k ≤ X.nl.length ∧ i = .int .i64 k ∧ Hid (∀ i y, i < k → (X.nl.zip X.ns)[i]? = some y → badN y = false) ∧ wr = W1) (fun i _ => X.nl.length - (intOf i).toNat)
      case atStart => exact ⟨0, Nat.zero_le _, rfl, fun i y h => by omega, hW1.symm⟩
      case round =>
        clear hW1
        obtain ⟨k, hk, rfl, HN, rfl⟩ := hrel
        by_cases h1 : k < X.nl.length
        · obtain ⟨b, hb⟩ : ∃ b, X.nl[k]? = some b := ⟨_, List.getElem?_eq_getElem h1⟩
          obtain ⟨m, hm⟩ : ∃ m, X.ns[k]? = some m := ⟨_, List.getElem?_eq_getElem (by rw [unhide HNS]; exact h1)⟩
          obtain ⟨pb, po, ea, cp⟩ := ((unhide HP).later (unhide HBW)).1.get (k := k) (x := .bool b) (by simp [hb])
          obtain ⟨qb, qo, eb, cq⟩ := ((unhide HP).later (unhide HBW)).2.1.get (k := k) (x := .int .i64 m) (by simp [hm])
          rw [ea] at r1
          rw [eb] at r2
          have HS := hide (zip_get hb hm)
          have i1 : (k : Int) < (X.nl.length : Int) := by omega
          have i2 : (k : Int) < (X.ns.length : Int) := by rw [unhide HNS]; exact i1
          clear hb hm ea eb
          cases b
          · have HQ := hide (stepG (unhide HN) (unhide HS) (by simp [badN]))
            go_wp2
            go_roundw
            case rel => exact ⟨k + 1, by omega, by go_num, HQ, by first | rfl | trivial⟩
            case measure => simp [intOf]; omega
          · rcases Bool.eq_false_or_eq_true (m != 0) with em | em
            · have HE : Hid (G = false) := by show _ = _; rw [unhide HG, hitG (unhide HS) (by simpa [badN] using em)]; rfl
              go_wp2
              go_ret
              exact ⟨by rw [unhide HE]; rfl, unhide HBW⟩
            · have HQ := hide (stepG (unhide HN) (unhide HS) (by simpa [badN] using em))
              go_wp2
              go_roundw
              case rel => exact ⟨k + 1, by omega, by go_num, HQ, by first | rfl | trivial⟩
              case measure => simp [intOf]; omega
        · have i1 : ¬ (k : Int) < (X.nl.length : Int) := by omega
          have HE : Hid (G = true) := by
            show _ = _
            have e : k = X.nl.length := by omega
            rw [unhide HG, noneG (by rw [unhide HZL, ← e]; exact unhide HN)]; rfl
          go_wp2
          go_ret
          exact ⟨by rw [unhide HE]; rfl, unhide HBW⟩
    · have z' : ((X.ss.length : Int) != 0) = true := by simp; intro e; exact z (by rw [e]; rfl)
      have e1' : ((X.ns.length : Int) != (X.nl.length : Int)) = false := by simp [e1]
      have HE := hide (goodN_no2 k1 z)
      generalize goodB X = G at HE ⊢
      clear z e1 hp
      go_enter Try.func11, Try.ntmps11
      go_wp2
      go_ret
      exact ⟨by rw [unhide HE]; rfl, below_alloc (Below.refl _ _) _⟩
  · have e1' : ((X.ns.length : Int) != (X.nl.length : Int)) = true := by simp; omega
    have HE := hide (goodN_no1 k1 e1)
    generalize goodB X = G at HE ⊢
    clear e1 hp
    go_enter Try.func11, Try.ntmps11
    go_wp2
    go_ret
    exact ⟨by rw [unhide HE]; rfl, below_alloc (Below.refl _ _) _⟩

def badT (p : Bool × ByteArray) : Bool := badS p || largeB p.2
theorem badT_any {nl : List Bool} {ss : List ByteArray} (e : nl.length = ss.length) : (nl.zip ss).any badT = ((nl.zip ss).any badS || ss.any largeB) := by
  have h : ss.any largeB = (nl.zip ss).any (fun p => largeB p.2) := by
    have : (nl.zip ss).map Prod.snd = ss := List.map_snd_zip (by omega)
    conv => lhs; rw [← this, List.any_map]
    rfl
  rw [h]
  induction nl.zip ss with
  | nil => rfl
  | cons p l ih => simp only [List.any_cons, ih, badT]; cases badS p <;> cases largeB p.2 <;> simp
theorem goodT_of {X : Vc} (k1 : (X.k == 1) = false) (k2 : (X.k == 2) = true) (z : X.ns.length = 0) (e : X.ss.length = X.nl.length) : goodB X = !(X.nl.zip X.ss).any badT := by
  rw [badT_any e.symm]
  simp [goodB, k1, k2, z, znS, e]
theorem goodT_no1 {X : Vc} (k1 : (X.k == 1) = false) (k2 : (X.k == 2) = true) (e : X.ss.length ≠ X.nl.length) : goodB X = false := by
  simp only [goodB, k1, k2, if_true, znS]
  rw [beq_false_of_ne (fun h => e h.symm)]; simp
theorem goodT_no2 {X : Vc} (k1 : (X.k == 1) = false) (k2 : (X.k == 2) = true) (z : X.ns.length ≠ 0) : goodB X = false := by
  simp only [goodB, k1, k2, if_true]
  rw [beq_false_of_ne z]; simp

set_option maxHeartbeats 4000000 in
set_option maxRecDepth 100000 in
theorem rgood_text (X : Vc) (p : Sl) (w : World) (hs : small X) (hp : VecAt w X p) (k1 : (X.k == 2) = true) :
    Calls Try.prog 11 #[vecV X p] w fun e w' => e = .returned (.bool (goodB X)) ∧ Below w.heap.size w w' := by
  rw [vecV_open]
  obtain ⟨l1, l2, l3⟩ := hs
  have k2 : (X.k == 1) = false := by have := beq_iff_eq.1 k1; rw [this]; rfl
  have k3 : (X.k != 1) = true := by simpa using k2
  have k4 : (X.k != 2) = false := by simpa using k1
  have HP := hide hp
  clear hp
  generalize hGX : goodB X = G
  have HGX := hide hGX
  clear hGX
  obtain ⟨W1, hW1⟩ : ∃ W1, W1 = boxV w X p := ⟨_, rfl⟩
  obtain ⟨⟨r0, r1, r2, r3⟩, hbw, hzw⟩ := boxV_facts (Below.refl (boxV w X p).heap.size (boxV w X p))
  go_enter Try.func11, Try.ntmps11
  go_upto_region 3 with fail
  change Code.wp _ _ _ _ (boxV w X p)
  have q1 := cell_regrown r1
  refine wp_region_quiet_below (by kernel_rfl) (by kernel_rfl) ?_
  repeat (go_big_quiet_step (fail))
  refine wpQuiet_nil ?_
  intro w' hw'
  have hB2 : Below (boxV w X p).heap.size (boxV w X p) w' := by obtain ⟨p, rfl⟩ := hw'; exact below_regrown _ _ _
  clear hw' r0 r1 r2 r3 hbw hzw q1 hW1 W1
  obtain ⟨⟨r0, r1, r2, r3⟩, hbw, hzw⟩ := boxV_facts hB2
  have HBW := hide hbw
  clear hbw
  obtain ⟨W1, rfl⟩ : ∃ W1, W1 = w' := ⟨_, rfl⟩
  by_cases z : X.ns.length = 0
  · by_cases e1 : X.ss.length = X.nl.length
    · have HG : Hid (G = !(X.nl.zip X.ss).any badT) := by show _ = _; rw [← unhide HGX]; exact goodT_of k2 k1 z e1
      have z' : ((X.ns.length : Int) != 0) = false := by simp [z]
      have e1' : ((X.ss.length : Int) != (X.nl.length : Int)) = false := by simp [e1]
      have HZL : Hid ((X.nl.zip X.ss).length = X.nl.length) := by show _ = _; simp [e1]
      have HNS := hide e1
      clear z e1
      go_wp2_with fail
      go_loopw [40] (fun i wr => ∃ k : Nat, k ≤ X.nl.length ∧ i = .int .i64 k ∧ Hid (∀ i y, i < k → (X.nl.zip X.ss)[i]? = some y → badT y = false) ∧ wr = W1) (fun i _ => X.nl.length - (intOf i).toNat)
      case atStart => exact ⟨0, Nat.zero_le _, rfl, fun i y h => by omega, rfl⟩
      case round =>
        obtain ⟨k, hk, rfl, HN, rfl⟩ := hrel
        by_cases h1 : k < X.nl.length
        · obtain ⟨b, hb⟩ : ∃ b, X.nl[k]? = some b := ⟨_, List.getElem?_eq_getElem h1⟩
          obtain ⟨m, hm⟩ : ∃ m, X.ss[k]? = some m := ⟨_, List.getElem?_eq_getElem (by rw [unhide HNS]; exact h1)⟩
          obtain ⟨pb, po, ea, cp⟩ := ((unhide HP).later (unhide HBW)).1.get (k := k) (x := .bool b) (by simp [hb])
          obtain ⟨qb, qo, eb, cq⟩ := ((unhide HP).later (unhide HBW)).2.2.get (k := k) (x := .string m) (by simp [hm])
          rw [ea] at r1
          rw [eb] at r3
          have HS := hide (zip_get hb hm)
          have i1 : (k : Int) < (X.nl.length : Int) := by omega
          have i2 : (k : Int) < (X.ss.length : Int) := by rw [unhide HNS]; exact i1
          clear hb hm ea eb
          by_cases hL : (1000 : Int) < (m.size : Int)
          · have HE : Hid (G = false) := by show _ = _; rw [unhide HG, hitG (unhide HS) (by simp only [badT, largeB]; simp [hL])]; rfl
            cases b
            · go_wp2
              go_ret
              exact ⟨by rw [unhide HE]; rfl, unhide HBW⟩
            · rcases Bool.eq_false_or_eq_true (!m.toList.isEmpty) with em | em
              · go_wp2
                go_ret
                exact ⟨by rw [unhide HE]; rfl, unhide HBW⟩
              · go_wp2
                go_ret
                exact ⟨by rw [unhide HE]; rfl, unhide HBW⟩
          · have eL : largeB m = false := by simpa [largeB] using hL
            cases b
            · have HQ := hide (stepG (unhide HN) (unhide HS) (by simp only [badT, badS, eL]; rfl))
              go_wp2
              go_roundw
              case rel => exact ⟨k + 1, by omega, by go_num, HQ, by first | rfl | trivial⟩
              case measure => simp [intOf]; omega
            · rcases Bool.eq_false_or_eq_true (!m.toList.isEmpty) with em | em
              · have HE : Hid (G = false) := by show _ = _; rw [unhide HG, hitG (unhide HS) (by simp only [badT, badS, em]; rfl)]; rfl
                go_wp2
                go_ret
                exact ⟨by rw [unhide HE]; rfl, unhide HBW⟩
              · have HQ := hide (stepG (unhide HN) (unhide HS) (by simp only [badT, badS, eL, em]; rfl))
                go_wp2
                go_roundw
                case rel => exact ⟨k + 1, by omega, by go_num, HQ, by first | rfl | trivial⟩
                case measure => simp [intOf]; omega
        · have i1 : ¬ (k : Int) < (X.nl.length : Int) := by omega
          have HE : Hid (G = true) := by
            show _ = _
            have e : k = X.nl.length := by omega
            rw [unhide HG, noneG (by rw [unhide HZL, ← e]; exact unhide HN)]; rfl
          go_wp2
          go_ret
          exact ⟨by rw [unhide HE]; rfl, unhide HBW⟩
    · have z' : ((X.ns.length : Int) != 0) = false := by simp [z]
      have e1' : ((X.ss.length : Int) != (X.nl.length : Int)) = true := by simp; omega
      have HE : Hid (G = false) := by show _ = _; rw [← unhide HGX]; exact goodT_no1 k2 k1 e1
      clear z e1
      go_wp2
      go_ret
      exact ⟨by rw [unhide HE]; rfl, unhide HBW⟩
  · have z' : ((X.ns.length : Int) != 0) = true := by simp; intro e; exact z (by rw [e]; rfl)
    have HE : Hid (G = false) := by show _ = _; rw [← unhide HGX]; exact goodT_no2 k2 k1 z
    clear z
    go_wp2
    go_ret
    exact ⟨by rw [unhide HE]; rfl, unhide HBW⟩

set_option maxHeartbeats 1000000 in
theorem rgood_other (X : Vc) (p : Sl) (w : World) (k1 : (X.k == 1) = false) (k2 : (X.k == 2) = false) :
    Calls Try.prog 11 #[vecV X p] w fun e w' => e = .returned (.bool (goodB X)) ∧ Below w.heap.size w w' := by
  rw [vecV_open]
  have k3 : (X.k != 1) = true := by simpa using k1
  have k4 : (X.k != 2) = true := by simpa using k2
  have HE : Hid (goodB X = false) := by show _ = _; simp [goodB, k1, k2]
  generalize goodB X = G at HE ⊢
  go_enter Try.func11, Try.ntmps11
  go_wp2
  go_ret
  exact ⟨by rw [unhide HE]; rfl, below_alloc (Below.refl _ _) _⟩
theorem rgood_any (X : Vc) (p : Sl) (w : World) (hs : small X) (hp : VecAt w X p) :
    Calls Try.prog 11 #[vecV X p] w fun e w' => e = .returned (.bool (goodB X)) ∧ Below w.heap.size w w' := by
  rcases Bool.eq_false_or_eq_true (X.k == 1) with k1 | k1
  · exact rgood_int X p w hs hp k1
  · rcases Bool.eq_false_or_eq_true (X.k == 2) with k2 | k2
    · exact rgood_text X p w hs hp k2
    · exact rgood_other X p w k1 k2
end Go.Proofs.Ytihkflcdphebmab
set_option linter.unusedSimpArgs false
set_option linter.unusedVariables false
namespace Go.Proofs.Ytihkflcdphebmab
open Go.RowKit Go.Sort

def atV (X : Vc) (i : Nat) : Val := if X.nl.getD i false then .null else if X.k == 1 then .num (X.ns.getD i 0) else .str (X.ss.getD i ⟨#[]⟩)
def valsV (X : Vc) : List Val := if goodB X then (List.range X.nl.length).map (atV X) else []
theorem vals_at {X : Vc} (hg : goodB X = true) {i : Nat} (hi : i < X.nl.length) : (valsV X)[i]? = some (atV X i) := by simp [valsV, hg, hi]
theorem vals_len {X : Vc} (hg : goodB X = true) : (valsV X).length = X.nl.length := by simp [valsV, hg]
theorem vals_none {X : Vc} (hg : goodB X = false) : valsV X = [] := by simp [valsV, hg]
theorem vals_le (X : Vc) : (valsV X).length ≤ X.nl.length := by
  cases h : goodB X
  · rw [vals_none h]; simp
  · rw [vals_len h]; exact Nat.le_refl _
theorem good_kinds {X : Vc} (hg : goodB X = true) : ((X.k == 1) = true ∧ X.ns.length = X.nl.length) ∨ ((X.k == 1) = false ∧ (X.k == 2) = true ∧ X.ss.length = X.nl.length) := by
  unfold goodB at hg
  rcases Bool.eq_false_or_eq_true (X.k == 1) with k1 | k1
  · rw [k1] at hg
    simp [znN] at hg
    exact .inl ⟨k1, hg.2.1.symm⟩
  · rcases Bool.eq_false_or_eq_true (X.k == 2) with k2 | k2
    · rw [k1, k2] at hg
      simp [znS] at hg
      exact .inr ⟨k1, k2, hg.1.2.1.symm⟩
    · rw [k1, k2] at hg; simp at hg

set_option maxHeartbeats 1000000 in
theorem at_any (X : Vc) (p : Sl) (w : World) (hs : small X) (hg : goodB X = true) (hp : VecAt w X p) (i : Nat) (hi : i < X.nl.length) :
    Calls Try.prog 43 #[vecV X p, .int .i64 i] w fun e w' => e = .returned (atV X i).v ∧ Below w.heap.size w w' := by
  rw [vecV_open]
  obtain ⟨l1, l2, l3⟩ := hs
  obtain ⟨b, hb⟩ : ∃ b, X.nl[i]? = some b := ⟨_, List.getElem?_eq_getElem hi⟩
  obtain ⟨pb, po, ea, cp⟩ := hp.1.get (k := i) (x := .bool b) (by simp [hb])
  rw [ea]
  have i1 : (i : Int) < (X.nl.length : Int) := by omega
  have hbl := World.block_lt_of_cell? _ _ cp
  simp only at hbl
  cases b
  · rcases good_kinds hg with ⟨k1, e1⟩ | ⟨k1, k2, e1⟩
    · obtain ⟨m, hm⟩ : ∃ m, X.ns[i]? = some m := ⟨_, List.getElem?_eq_getElem (by omega)⟩
      obtain ⟨qb, qo, eb, cq⟩ := hp.2.1.get (k := i) (x := .int .i64 m) (by simp [hm])
      rw [eb]
      have i2 : (i : Int) < (X.ns.length : Int) := by omega
      have hbl2 := World.block_lt_of_cell? _ _ cq
      simp only at hbl2
      have HV : Hid (atV X i = .num m) := by show _ = _; simp [atV, hb, k1, hm]
      generalize atV X i = V at HV ⊢
      clear ea eb hb hm hp hg e1
      go_enter Try.func43, Try.ntmps43
      go_wp2
      refine bodyPost_ret (v := (Val.num m).v) (by simp [results, Try.results43, go_sem, Val.v, Val.num]) rfl ⟨by rw [unhide HV], ?_⟩
      (repeat (first | exact Below.refl _ _ | refine Below.alloc ?_ (by simp <;> omega) _ | refine Below.setCell ?_ (by simp <;> omega) _))
    · obtain ⟨m, hm⟩ : ∃ m, X.ss[i]? = some m := ⟨_, List.getElem?_eq_getElem (by omega)⟩
      obtain ⟨qb, qo, eb, cq⟩ := hp.2.2.get (k := i) (x := .string m) (by simp [hm])
      rw [eb]
      have i2 : (i : Int) < (X.ss.length : Int) := by omega
      have hbl2 := World.block_lt_of_cell? _ _ cq
      simp only at hbl2
      have HV : Hid (atV X i = .str m) := by show _ = _; simp [atV, hb, k1, hm]
      generalize atV X i = V at HV ⊢
      clear ea eb hb hm hp hg e1
      go_enter Try.func43, Try.ntmps43
      go_wp2
      refine bodyPost_ret (v := (Val.str m).v) (by simp [results, Try.results43, go_sem, Val.v, Val.str]) rfl ⟨by rw [unhide HV], ?_⟩
      (repeat (first | exact Below.refl _ _ | refine Below.alloc ?_ (by simp <;> omega) _ | refine Below.setCell ?_ (by simp <;> omega) _))
  · have HV : Hid (atV X i = .null) := by show _ = _; simp [atV, hb]
    generalize atV X i = V at HV ⊢
    clear ea hb hp hg
    go_enter Try.func43, Try.ntmps43
    go_wp2
    refine bodyPost_ret (v := Val.null.v) (by simp [results, Try.results43, go_sem, Val.v, Val.null]) rfl ⟨by rw [unhide HV], ?_⟩
    (repeat (first | exact Below.refl _ _ | refine Below.alloc ?_ (by simp <;> omega) _ | refine Below.setCell ?_ (by simp <;> omega) _))

set_option maxHeartbeats 1000000 in
theorem len_any (X : Vc) (p : Sl) (w : World) (hs : small X) (hp : VecAt w X p) :
    Calls Try.prog 15 #[vecV X p] w fun e w' => e = .returned (.int .i64 ((valsV X).length : Nat)) ∧ Below w.heap.size w w' := by
  have HG : Hid (∀ w', Below w.heap.size w w' → Calls Try.prog 14 #[vecV X p] w' fun e w'' => e = .returned (.bool (goodB X)) ∧ Below w'.heap.size w' w'') := fun w' hb => good_any X p w' hs (hp.later hb)
  have HV : Hid ((valsV X).length = if goodB X then X.nl.length else 0) := by
    show _ = _
    cases h : goodB X
    · simp [vals_none h]
    · simp [vals_len h]
  obtain ⟨l1, l2, l3⟩ := hs
  generalize (valsV X).length = N at HV ⊢
  generalize goodB X = G at HV HG
  rw [vecV_open]
  clear hp
  cases G
  · have HE : Hid (N = 0) := unhide HV
    go_enter Try.func15, Try.ntmps15
    go_wp2_with (go_at_call 14; refine (unhide HG _ (below_alloc (Below.refl _ _) _)).mono ?_; rintro e w1 ⟨rfl, hb1⟩)
    go_ret
    exact ⟨by rw [unhide HE]; rfl, below_one hb1⟩
  · have HE : Hid (N = X.nl.length) := unhide HV
    go_enter Try.func15, Try.ntmps15
    go_wp2_with (go_at_call 14; refine (unhide HG _ (below_alloc (Below.refl _ _) _)).mono ?_; rintro e w1 ⟨rfl, hb1⟩; obtain ⟨⟨r0, r1, r2, r3⟩, hbb, hzz⟩ := boxV_facts hb1)
    go_ret
    exact ⟨by rw [unhide HE]; rfl, hbb⟩
end Go.Proofs.Ytihkflcdphebmab
set_option linter.unusedSimpArgs false
set_option linter.unusedVariables false
namespace Go.Proofs.Ytihkflcdphebmab
open Go.RowKit Go.Sort

def c3 (x : Val) : List Value := [.int .i64 x.k, .int .i64 x.n, .string x.s]
/-- The slice of values v, a row of the call's own, holds xs. -/
def OwnV (w : World) (base : Nat) (v : Value) (xs : List Val) : Prop := w.ownsRow base 40 3 v xs.length (xs.flatMap c3)
theorem ownV_app {w : World} {base : Nat} {v : Value} {ys : List Val} {x : Val} (h : w.ownsRow base 40 3 v (ys.length + 1) (ys.flatMap c3 ++ c3 x)) : OwnV w base v (ys ++ [x]) := by
  unfold OwnV
  rw [List.length_append, List.flatMap_append]
  simpa using h
theorem OwnV.later {w w1 : World} {base : Nat} {v : Value} {xs : List Val} (h : OwnV w base v xs) (hb : Below w.heap.size w w1) : OwnV w1 base v xs := own_later h hb
theorem flat_at : ∀ (zs : List Val) (i j : Nat) (x : Val), zs[i]? = some x → j < 3 → (zs.flatMap c3)[i * 3 + j]? = (c3 x)[j]?
  | [], i, j, x, h, _ => by simp at h
  | z :: zs, 0, j, x, h, hj => by
    simp at h
    subst h
    rw [List.flatMap_cons, List.getElem?_append_left (by simp [c3]; omega)]
    simp
  | z :: zs, i + 1, j, x, h, hj => by
    have ih := flat_at zs i j x (by simpa using h) hj
    rw [List.flatMap_cons, List.getElem?_append_right (by simp [c3]; omega)]
    rw [← ih]
    congr 1
    simp [c3]
    omega
theorem flat_len (zs : List Val) : (zs.flatMap c3).length = zs.length * 3 := by
  induction zs with
  | nil => rfl
  | cons z zs ih => rw [List.flatMap_cons, List.length_append, ih]; simp [c3]; omega
theorem ownV_row {w : World} {base : Nat} {v : Value} {zs : List Val} (h : OwnV w base v zs) : ∃ a cap, v = .slice a zs.length cap ∧ RowAt w a zs := by
  rcases h.2 with ⟨rfl, h0⟩ | ⟨g, cap, cur, rfl, _⟩
  · have : zs = [] := List.eq_nil_of_length_eq_zero h0
    subst this
    exact ⟨none, 0, rfl, .inl rfl⟩
  · refine ⟨_, cap, rfl, .inr ⟨g, 0, rfl, fun i x hx => ?_⟩⟩
    have hc := World.ownsRow.cells h rfl
    have ea : ∀ n : Nat, (⟨g, 0, none⟩ : Addr).add n = ⟨g, 0 + n, none⟩ := by
      intro n
      by_cases h : n = 0 <;> simp [Addr.add, h]
    have e0 := hc (i * 3 + 0) _ (flat_at zs i 0 x hx (by omega))
    have e1 := hc (i * 3 + 1) _ (flat_at zs i 1 x hx (by omega))
    have e2 := hc (i * 3 + 2) _ (flat_at zs i 2 x hx (by omega))
    rw [ea] at e0 e1 e2
    exact ⟨by simpa using e0, by simpa [Nat.add_assoc] using e1, by simpa [Nat.add_assoc] using e2⟩
theorem own_of_row {w : World} {base g n : Nat} {F : Nat → Value} {ys : List Val} (h : w.rowIs g 40 (n * 3) F) (hl : ys.length = n) (hh : Holds3 F n ys) (hb : base ≤ g) (hn : n ≤ maxLen) : OwnV w base (.slice (some ⟨g, 0, none⟩) n n) ys := by
  subst hl
  obtain ⟨c, hc, hs, hf⟩ := h
  refine ⟨flat_len ys, .inr ⟨g, ys.length, c, rfl, hb, hc, Nat.le_refl _, hn, hs, ?_⟩⟩
  rw [List.take_of_length_le (by simp [hs])]
  apply List.ext_getElem?
  intro j
  by_cases hj : j < ys.length * 3
  · have e : j = (j / 3) * 3 + j % 3 := by omega
    have hx : ys[j / 3]? = some (ys[j / 3]'(by omega)) := List.getElem?_eq_getElem (by omega)
    obtain ⟨f0, f1, f2⟩ := hh (j / 3) _ (by omega) hx
    have hcj : c.toList[j]? = some (F j) := by rw [Array.getElem?_toList]; exact hf j hj
    rw [hcj]
    have hfl := flat_at ys (j / 3) (j % 3) _ hx (by omega)
    rw [← e] at hfl
    rw [hfl]
    have h3 : j % 3 = 0 ∨ j % 3 = 1 ∨ j % 3 = 2 := by omega
    rcases h3 with h3 | h3 | h3
    · rw [h3]; rw [h3, Nat.add_zero] at e; rw [← e] at f0; simp [c3, f0]
    · rw [h3]; rw [h3] at e; rw [← e] at f1; simp [c3, f1]
    · rw [h3]; rw [h3] at e; rw [← e] at f2; simp [c3, f2]
  · rw [List.getElem?_eq_none (by simp [hs]; omega), List.getElem?_eq_none (by rw [flat_len]; omega)]

/-- A column's box and a row of values that is being laid. -/
def PInv (w0 w : World) (B g n k : Nat) (v0 v1 v2 v3 : Value) (ys : List Val) : Prop :=
  Below w0.heap.size w0 w ∧ w.rowIs B 27 4 (box4 v0 v1 v2 v3) ∧ (∃ F, w.rowIs g 40 (n * 3) F ∧ Holds3 F k ys)
theorem PInv.later {w0 w w' : World} {B g n k : Nat} {v0 v1 v2 v3 : Value} {ys : List Val} (h : PInv w0 w B g n k v0 v1 v2 v3 ys) (hb : Below w.heap.size w w') : PInv w0 w' B g n k v0 v1 v2 v3 ys := by
  obtain ⟨hb0, hr, F, hF, hF'⟩ := h
  exact ⟨below_step hb0 hb, rowIs_later hr hb, F, rowIs_later hF hb, hF'⟩
theorem PInv.step {w0 w : World} {B g n k : Nat} {v0 v1 v2 v3 : Value} {ys : List Val} {y : Val} (h : PInv w0 w B g n k v0 v1 v2 v3 ys) (hg : w0.heap.size ≤ g) (hne : B ≠ g) (hy : ys[k]? = some y) :
    PInv w0 (((w.setCell ⟨g, k * 3, none⟩ (.int .i64 y.k)).setCell ⟨g, k * 3 + 1, none⟩ (.int .i64 y.n)).setCell ⟨g, k * 3 + 2, none⟩ (.string y.s)) B g n (k + 1) v0 v1 v2 v3 ys := by
  obtain ⟨hb0, hr, F, hF, hF'⟩ := h
  refine ⟨((hb0.setCell hg _).setCell hg _).setCell hg _, ?_, ⟨_, ?_, hF'.step hy⟩⟩
  · exact ((hr.setOther hne _).setOther hne _).setOther hne _
  · exact ((hF.set _ _).set _ _).set _ _

theorem PInv.start {w0 w1 : World} {B : Nat} {v0 v1 v2 v3 : Value} (hb : Below w0.heap.size w0 w1) (hr : w1.rowIs B 27 4 (box4 v0 v1 v2 v3)) (c : Array Value) (n : Nat) (ys : List Val) : PInv w0 (w1.alloc (.cells (madeCells c (n * 3)) 40)) B w1.heap.size n 0 v0 v1 v2 v3 ys := by
  obtain ⟨F, hF⟩ := rowIs_any w1 (madeCells c (n * 3)) 40
  rw [size_madeCells] at hF
  exact ⟨below_alloc hb _, hr.alloc _, F, hF, Holds3.zero _ _⟩

set_option maxHeartbeats 2000000 in
theorem values_any (X : Vc) (p : Sl) (w : World) (hs : small X) (hp : VecAt w X p) :
    Calls Try.prog 18 #[vecV X p] w fun e w' => ∃ v, e = .returned v ∧ OwnV w' w.heap.size v (valsV X) ∧ Below w.heap.size w w' := by
  obtain ⟨i4, hi4, z40, z41, z42⟩ := info_parts Try.info40
  have HL : Hid (∀ w', Below w.heap.size w w' → Calls Try.prog 15 #[vecV X p] w' fun e w'' => e = .returned (.int .i64 ((valsV X).length : Nat)) ∧ Below w'.heap.size w' w'') := fun w' hb => len_any X p w' hs (hp.later hb)
  have HT : Hid (goodB X = true → ∀ w', Below w.heap.size w w' → ∀ i, i < X.nl.length → Calls Try.prog 43 #[vecV X p, .int .i64 i] w' fun e w'' => e = .returned (atV X i).v ∧ Below w'.heap.size w' w'') := fun hg w' hb i hi => at_any X p w' hs hg (hp.later hb) i hi
  have hN : (valsV X).length ≤ 4398046511104 := Nat.le_trans (vals_le X) hs.1
  obtain ⟨N, hNe⟩ : ∃ N, N = (valsV X).length := ⟨_, rfl⟩
  have HN := hide hNe
  rw [← hNe] at hN HL
  have HA : Hid (∀ i, i < N → (valsV X)[i]? = some (atV X i) ∧ ∀ w', Below w.heap.size w w' → Calls Try.prog 43 #[vecV X p, .int .i64 i] w' fun e w'' => e = .returned (atV X i).v ∧ Below w'.heap.size w' w'') := by
    intro i hi
    rw [hNe] at hi
    cases hg : goodB X
    · rw [vals_none hg] at hi; simp at hi
    · rw [vals_len hg] at hi
      exact ⟨vals_at hg hi, fun w' hb => unhide HT hg w' hb i hi⟩
  clear hp HT hNe hs
  rw [vecV_open]
  go_enter Try.func18, Try.ntmps18
  go_wp2_with (first
    | (go_at_call 15; refine (unhide HL _ (below_alloc (Below.refl _ _) _)).mono ?_; rintro e w1 ⟨rfl, hb1⟩; have hbx := boxV_facts hb1; obtain ⟨⟨r0, r1, r2, r3⟩, hbw, hzw⟩ := hbx)
    | (at_make; refine wpList_make_rows _ rfl (.tmp 6) (.tmp 6) 22 rfl 40 i4 _ Try.underlying22 hi4 z40 3 z41 .i64 .i64 N rfl rfl (by rw [z42]; omega) (by omega) ?_)
    | fail)
  have HR := hide (rowIs_later (box4_alloc w _ _ _ _) hb1)
  clear hb1 r0 r1 r2 r3
  go_loopw [10] (fun i wr => ∃ k : Nat, k ≤ N ∧ i = .int .i64 k ∧ PInv w wr w.heap.size w1.heap.size N k (.int .i64 X.k) (.slice p.a1 X.nl.length p.c1) (.slice p.a2 X.ns.length p.c2) (.slice p.a3 X.ss.length p.c3) (valsV X)) (fun i _ => N - (intOf i).toNat)
  case atStart => exact ⟨0, Nat.zero_le _, rfl, PInv.start hbw (unhide HR) _ _ _⟩
  case round =>
    obtain ⟨k, hk, rfl, hI⟩ := hrel
    have HI := hide hI
    obtain ⟨hb, hr, F, hF, hF'⟩ := hI
    by_cases h1 : k < N
    · obtain ⟨r0, r1, r2, r3, _⟩ := box_facts hr
      obtain ⟨hv, hat⟩ := unhide HA k h1
      have HV := hide hv
      have HT := hide (hat wr hb)
      generalize atV X k = y at HV HT
      have HF := hide hF
      have hg := hF.lt
      have i1 : (k : Int) < (N : Int) := by omega
      clear hr hF hF' hb hv hat
      go_wp2_with (go_at_call 43; refine (unhide HT).mono ?_; rintro e w2 ⟨rfl, hb2⟩; rw [Val.open_]; obtain ⟨p0, p1, p2, q0, q1, q2⟩ := three (k := k) (rowIs_later (unhide HF) hb2) (by omega))
      go_roundw
      case rel => exact ⟨k + 1, by omega, by go_num, ((unhide HI).later hb2).step (by omega) (by omega) (unhide HV)⟩
      case measure => simp [intOf]; omega
    · have i1 : ¬ (k : Int) < (N : Int) := by omega
      have HE : Hid (OwnV wr w.heap.size (.slice (some ⟨w1.heap.size, 0, none⟩) N N) (valsV X)) := by
        have e : k = N := by omega
        rw [e] at hF'
        exact own_of_row hF (unhide HN).symm hF' (by omega) (by unfold maxLen; omega)
      clear hF hF' hr
      go_wp2
      go_ret
      exact ⟨_, rfl, unhide HE, hb⟩
end Go.Proofs.Ytihkflcdphebmab
set_option linter.unusedSimpArgs false
set_option linter.unusedVariables false
namespace Go.Proofs.Ytihkflcdphebmab
open Go.RowKit Go.Sort

theorem cells3_new (w : World) (y : Val) : ∀ j u, (c3 y)[j]? = some u → (w.alloc (.cells #[.int .i64 y.k, .int .i64 y.n, .string y.s] 40)).cell? ((⟨w.heap.size, 0, none⟩ : Addr).add j) = some u := by
  intro j u hj
  match j, hj with
  | 0, hj => simp [c3] at hj; subst hj; simp [Addr.add, go_sem]
  | 1, hj => simp [c3] at hj; subst hj; simp [Addr.add, go_sem]
  | 2, hj => simp [c3] at hj; subst hj; simp [Addr.add, go_sem]
  | j + 3, hj => simp [c3] at hj
theorem c3_one (y : Val) : ∀ u ∈ c3 y, u.oneCell' = true := by
  intro u hu; simp [c3] at hu; rcases hu with rfl | rfl | rfl <;> rfl
theorem ownV_len {w : World} {base : Nat} {v : Value} {ys zs : List Val} (h : OwnV w base v zs) (e : zs = ys) : OwnV w base v ys := e ▸ h
/-- Behind an append to an own row: what lay below stays. -/
theorem own_below {w0 w w1 : World} {o : Obj} {v : Value} {base : Nat} {ys : List Val} (hb : Below w0.heap.size w0 w) (ho : OwnV w base v ys) (hbase : w0.heap.size ≤ base) (hg : (w.alloc o).grownBy w1 v.ownBlock) : Below w0.heap.size w0 w1 :=
  (below_alloc hb o).trans (grown_below hg (below_alloc hb o).size fun g e => Nat.le_trans hbase (ho.lt g e).1)

theorem own_base {w : World} {base base' e size : Nat} {v : Value} {m : Nat} {xs : List Value} (h : w.ownsRow base e size v m xs) (hb : base' ≤ base) : w.ownsRow base' e size v m xs := by
  refine ⟨h.1, ?_⟩
  rcases h.2 with h | ⟨g, cap, cur, hv, hg, rest⟩
  · exact .inl h
  · exact .inr ⟨g, cap, cur, hv, Nat.le_trans hb hg, rest⟩

set_option maxHeartbeats 4000000 in
theorem rvalues_any (X : Vc) (p : Sl) (w : World) (hs : small X) (hp : VecAt w X p) :
    Calls Try.prog 12 #[vecV X p] w fun e w' => ∃ v, e = .returned v ∧ OwnV w' w.heap.size v (valsV X) ∧ Below w.heap.size w w' := by
  obtain ⟨i4, hi4, z40, z41, z42⟩ := info_parts Try.info40
  have HG : Hid (∀ w', Below w.heap.size w w' → Calls Try.prog 11 #[vecV X p] w' fun e w'' => e = .returned (.bool (goodB X)) ∧ Below w'.heap.size w' w'') := fun w' hb => rgood_any X p w' hs (hp.later hb)
  have HP := hide hp
  obtain ⟨l1, l2, l3⟩ := hs
  clear hp
  rw [vecV_open]
  cases hg : goodB X
  · rw [hg] at HG
    have HV := hide (vals_none hg)
    generalize valsV X = ys at HV ⊢
    clear hg
    go_enter Try.func12, Try.ntmps12
    go_wp2_with fail
    refine wp_loop_rounds 1 ?_
    rw [rounds_succ]
    go_wp2_with (go_at_call 11; refine (unhide HG _ (below_alloc (Below.refl _ _) _)).mono ?_; rintro e w1 ⟨rfl, hb1⟩)
    go_ret
    exact ⟨_, rfl, by rw [unhide HV]; exact World.ownsRow_nil _ _ _ _, below_one hb1⟩
  · rw [hg] at HG
    have HKN := hide (good_kinds hg)
    have HVA : Hid (∀ i, i < X.nl.length → (valsV X)[i]? = some (atV X i)) := fun i hi => vals_at hg hi
    have HVL := hide (vals_len hg)
    clear hg
    obtain ⟨W1, hW1⟩ : ∃ W1, W1 = boxV w X p := ⟨_, rfl⟩
    have HW1 := hide hW1
    go_enter Try.func12, Try.ntmps12
    go_wp2_with fail
    go_loopw [3, 4] (fun v i wr => ∃ k : Nat, k ≤ X.nl.length ∧ i = .int .i64 k ∧ OwnV wr W1.heap.size v ((valsV X).take k) ∧ Below W1.heap.size W1 wr) (fun _ i _ => X.nl.length - (intOf i).toNat)
    case atStart => exact ⟨0, Nat.zero_le _, rfl, World.ownsRow_nil _ _ _ _, by rw [hW1]; exact Below.refl _ _⟩
    case round =>
      clear hW1
      obtain ⟨k, hk, rfl, ho, hb⟩ := hrel
      have hb' := hb
      rw [unhide HW1] at hb'
      obtain ⟨⟨r0, r1, r2, r3⟩, hbw, hzw⟩ := boxV_facts hb'
      have HO := hide ho
      have HB := hide hb
      have HBW := hide hbw
      have hlen : ((valsV X).take k).length = k := by rw [List.length_take, unhide HVL]; omega
      have HLEN := hide hlen
      clear ho hb hb' hbw hlen
      by_cases h1 : k < X.nl.length
      · have i1 : (k : Int) < (X.nl.length : Int) := by omega
        go_upto_region 3 with fail
        go_cut [13] (fun s13 wx => s13 = .bool true ∧ Below wr.heap.size wr wx)
        case first =>
          go_wp2_with (go_at_call 11; refine (unhide HG _ (unhide HBW)).mono ?_; rintro e w1 ⟨rfl, hb1⟩; have r1' := cell_later hb1 r1)
          go_meet
          exact ⟨rfl, hb1⟩
        case rest =>
          obtain ⟨rfl, hbx⟩ := hcut
          rename World => wx
          have HOx := hide ((unhide HO).later hbx)
          have HBx := hide (below_step (unhide HB) hbx)
          have HPx := hide ((unhide HP).later (below_step (unhide HBW) hbx))
          replace r0 := cell_later hbx r0
          replace r1 := cell_later hbx r1
          replace r2 := cell_later hbx r2
          replace r3 := cell_later hbx r3
          have hszx := (unhide HBx).size
          clear hbx HO HB HBW HG
          obtain ⟨b, hbb⟩ : ∃ b, X.nl[k]? = some b := ⟨_, List.getElem?_eq_getElem h1⟩
          obtain ⟨pb, po, ea, cp⟩ := (unhide HPx).1.get (k := k) (x := .bool b) (by simp [hbb])
          rw [ea] at r1
          have HY := hide (unhide HVA k h1)
          cases b
          · rcases unhide HKN with ⟨k1, e1⟩ | ⟨k1, k2, e1⟩
            · obtain ⟨m, hm⟩ : ∃ m, X.ns[k]? = some m := ⟨_, List.getElem?_eq_getElem (by omega)⟩
              obtain ⟨qb, qo, eb, cq⟩ := (unhide HPx).2.1.get (k := k) (x := .int .i64 m) (by simp [hm])
              rw [eb] at r2
              have i2 : (k : Int) < (X.ns.length : Int) := by omega
              have HV : Hid (atV X k = .num m) := by show _ = _; simp [atV, hbb, k1, hm]
              clear ea eb hbb hm e1
              go_wp2_with (first
                | (go_at_call 38; refine (rnum_any m _).mono ?_; rintro e w2 ⟨rfl, hb2⟩; rw [Val.open_]; have ho2 := (unhide HOx).later hb2; have hbb2 := below_step (unhide HBx) hb2; have hsz2 := hbb2.size)
                | (at_builtin; refine wpList_append_own_at _ rfl (.tmp 39) (.tmp 46) 22 rfl W1.heap.size 40 i4 (.agg #[.int .i64 0, .int .i64 0, .string ⟨#[]⟩]) 3 32 Try.underlying22 hi4 z40 z41 z42 rfl (by decide) _ _ _ rfl (World.ownsRow.alloc ho2 _) ⟨w2.heap.size, 0, none⟩ 1 1 (c3 (Val.num m)) rfl rfl (cells3_new w2 (Val.num m)) (c3_one _) (by rw [unhide HLEN]; unfold maxLen; omega) (by rw [unhide HLEN]; omega) (by simp; omega) ?_; intro v1 w3 hown1 hgrow1 _ hat1; have ho3 := ownV_app hown1; have hgr : (w2.alloc (.cells #[.int .i64 (Val.num m).k, .int .i64 (Val.num m).n, .string (Val.num m).s] 40)).grownBy w3 u3.ownBlock := hgrow1; clear hown1 hgrow1 hat1))
              go_roundw
              case rel => exact ⟨k + 1, by omega, by go_num, ownV_len ho3 (by rw [take_one (unhide HY), unhide HV]), own_below hbb2 ho2 (Nat.le_refl _) hgr⟩
              case measure => simp [intOf]; omega
            · obtain ⟨m, hm⟩ : ∃ m, X.ss[k]? = some m := ⟨_, List.getElem?_eq_getElem (by omega)⟩
              obtain ⟨qb, qo, eb, cq⟩ := (unhide HPx).2.2.get (k := k) (x := .string m) (by simp [hm])
              rw [eb] at r3
              have i2 : (k : Int) < (X.ss.length : Int) := by omega
              have HV : Hid (atV X k = .str m) := by show _ = _; simp [atV, hbb, k1, hm]
              clear ea eb hbb hm e1
              go_wp2_with (first
                | (go_at_call 39; refine (rstr_any m _).mono ?_; rintro e w2 ⟨rfl, hb2⟩; rw [Val.open_]; have ho2 := (unhide HOx).later hb2; have hbb2 := below_step (unhide HBx) hb2; have hsz2 := hbb2.size)
                | (at_builtin; refine wpList_append_own_at _ rfl (.tmp 16) (.tmp 23) 22 rfl W1.heap.size 40 i4 (.agg #[.int .i64 0, .int .i64 0, .string ⟨#[]⟩]) 3 32 Try.underlying22 hi4 z40 z41 z42 rfl (by decide) _ _ _ rfl (World.ownsRow.alloc ho2 _) ⟨w2.heap.size, 0, none⟩ 1 1 (c3 (Val.str m)) rfl rfl (cells3_new w2 (Val.str m)) (c3_one _) (by rw [unhide HLEN]; unfold maxLen; omega) (by rw [unhide HLEN]; omega) (by simp; omega) ?_; intro v1 w3 hown1 hgrow1 _ hat1; have ho3 := ownV_app hown1; have hgr : (w2.alloc (.cells #[.int .i64 (Val.str m).k, .int .i64 (Val.str m).n, .string (Val.str m).s] 40)).grownBy w3 u3.ownBlock := hgrow1; clear hown1 hgrow1 hat1))
              go_roundw
              case rel => exact ⟨k + 1, by omega, by go_num, ownV_len ho3 (by rw [take_one (unhide HY), unhide HV]), own_below hbb2 ho2 (Nat.le_refl _) hgr⟩
              case measure => simp [intOf]; omega
          · have HV : Hid (atV X k = .null) := by show _ = _; simp [atV, hbb]
            clear ea hbb
            go_wp2_with (first
              | (go_at_call 13; refine (none_any _).mono ?_; rintro e w2 ⟨rfl, hb2⟩; rw [Val.open_]; have ho2 := (unhide HOx).later hb2; have hbb2 := below_step (unhide HBx) hb2; have hsz2 := hbb2.size)
              | (at_builtin; refine wpList_append_own_at _ rfl (.tmp 31) (.tmp 33) 22 rfl W1.heap.size 40 i4 (.agg #[.int .i64 0, .int .i64 0, .string ⟨#[]⟩]) 3 32 Try.underlying22 hi4 z40 z41 z42 rfl (by decide) _ _ _ rfl (World.ownsRow.alloc ho2 _) ⟨w2.heap.size, 0, none⟩ 1 1 (c3 Val.null) rfl rfl (cells3_new w2 Val.null) (c3_one _) (by rw [unhide HLEN]; unfold maxLen; omega) (by rw [unhide HLEN]; omega) (by simp; omega) ?_; intro v1 w3 hown1 hgrow1 _ hat1; have ho3 := ownV_app hown1; have hgr : (w2.alloc (.cells #[.int .i64 Val.null.k, .int .i64 Val.null.n, .string Val.null.s] 40)).grownBy w3 u3.ownBlock := hgrow1; clear hown1 hgrow1 hat1))
            go_roundw
            case rel => exact ⟨k + 1, by omega, by go_num, ownV_len ho3 (by rw [take_one (unhide HY), unhide HV]), own_below hbb2 ho2 (Nat.le_refl _) hgr⟩
            case measure => simp [intOf]; omega
      · have i1 : ¬ (k : Int) < (X.nl.length : Int) := by omega
        have HE : Hid ((valsV X).take k = valsV X) := by
          show _ = _
          rw [List.take_of_length_le (by rw [unhide HVL]; omega)]
        go_wp2_with (go_at_call 11; refine (unhide HG _ (unhide HBW)).mono ?_; rintro e w1 ⟨rfl, hb1⟩; have r1' := cell_later hb1 r1)
        go_ret
        refine ⟨_, rfl, ?_, below_step (unhide HBW) hb1⟩
        have h := (unhide HO).later hb1
        rw [unhide HE] at h
        exact own_base h (by rw [unhide HW1]; simp [boxV])
end Go.Proofs.Ytihkflcdphebmab

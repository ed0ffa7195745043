import Derived.Test.YtbdkpkpncmagoaaGreatVecB
set_option linter.unusedSimpArgs false
set_option linter.unusedVariables false
namespace Go.Proofs.YtbdkpkpncmagoaaGreat
open Go.RowKit Go.Sort

def fit (X : Vc) : Prop := X.nl.length ≤ maxLen ∧ X.ns.length ≤ maxLen ∧ X.ss.length ≤ maxLen
theorem LisAt.get {w : World} {a : Option Addr} {cs : List Value} {k : Nat} {x : Value} (h : LisAt w a cs) (hx : cs[k]? = some x) : ∃ b off, a = some ⟨b, off, none⟩ ∧ w.cell? ⟨b, off + k, none⟩ = some x := by
  rcases h with h | ⟨b, off, ha, h⟩
  · rw [h] at hx; cases hx
  · exact ⟨b, off, ha, h k x hx⟩

def two (w : World) (v1 v2 v3 v4 u1 u2 u3 u4 : Value) : World := (w.alloc (.cells #[v1, v2, v3, v4] 49)).alloc (.cells #[u1, u2, u3, u4] 49)
theorem two_facts {w w' : World} {v1 v2 v3 v4 u1 u2 u3 u4 : Value} (h : Below (two w v1 v2 v3 v4 u1 u2 u3 u4).heap.size (two w v1 v2 v3 v4 u1 u2 u3 u4) w') :
    (w'.cell? ⟨w.heap.size, 1, none⟩ = some v2 ∧ w'.cell? ⟨w.heap.size, 2, none⟩ = some v3 ∧ w'.cell? ⟨w.heap.size, 3, none⟩ = some v4) ∧
    (w'.cell? ⟨w.heap.size + 1, 1, none⟩ = some u2 ∧ w'.cell? ⟨w.heap.size + 1, 2, none⟩ = some u3 ∧ w'.cell? ⟨w.heap.size + 1, 3, none⟩ = some u4) ∧ Below w.heap.size w w' := by
  have hs : (two w v1 v2 v3 v4 u1 u2 u3 u4).heap.size = w.heap.size + 1 + 1 := by simp [two]
  obtain ⟨hc, hf⟩ := bcell h
  refine ⟨⟨?_, ?_, ?_⟩, ⟨?_, ?_, ?_⟩, ?_⟩
  · rw [hc _ _ (by rw [hs]; omega)]; simp [two, go_sem]
  · rw [hc _ _ (by rw [hs]; omega)]; simp [two, go_sem]
  · rw [hc _ _ (by rw [hs]; omega)]; simp [two, go_sem]
  · rw [hc _ _ (by rw [hs]; omega)]; simp [two, go_sem]
  · rw [hc _ _ (by rw [hs]; omega)]; simp [two, go_sem]
  · rw [hc _ _ (by rw [hs]; omega)]; simp [two, go_sem]
  · exact (((Below.refl _ _).alloc (Nat.le_refl _) _).alloc (by simp) _).trans (h.mono (by rw [hs]; omega))

end Go.Proofs.YtbdkpkpncmagoaaGreat
set_option linter.unusedSimpArgs false
set_option linter.unusedVariables false
namespace Go.Proofs.YtbdkpkpncmagoaaGreat
open Go.RowKit Go.Sort

section
variable {α : Type}
theorem hitG {p : α → Bool} {ys : List α} {k : Nat} {y : α} (h : ys[k]? = some y) (hp : p y = true) : ys.any p = true :=
  List.any_eq_true.2 ⟨y, List.mem_of_getElem? h, hp⟩
theorem noneG {p : α → Bool} {ys : List α} (h : ∀ i y, i < ys.length → ys[i]? = some y → p y = false) : ys.any p = false := by
  rw [List.any_eq_false]
  intro y hy
  obtain ⟨i, hi⟩ := List.mem_iff_getElem?.1 hy
  rw [h i y (List.getElem?_eq_some_iff.1 hi).1 hi]; simp
theorem stepG {p : α → Bool} {ys : List α} {k : Nat} {y : α} (h : ∀ i y, i < k → ys[i]? = some y → p y = false) (hy : ys[k]? = some y) (hp : p y = false) : ∀ i y, i < k + 1 → ys[i]? = some y → p y = false := by
  intro i z hi hz
  by_cases e : i = k
  · subst e; rw [hy] at hz; cases hz; exact hp
  · exact h i z (by omega) hz
end
theorem zip_get {α β : Type} {xs : List α} {ys : List β} {k : Nat} {a : α} {b : β} (h1 : xs[k]? = some a) (h2 : ys[k]? = some b) : (xs.zip ys)[k]? = some (a, b) := by
  rw [List.getElem?_zip_eq_some]; exact ⟨h1, h2⟩

def badN (p : Bool × Int) : Bool := p.1 && p.2 != 0
def badS (p : Bool × ByteArray) : Bool := p.1 && !p.2.toList.isEmpty
def znN (nl : List Bool) (ns : List Int) : Bool := nl.length == ns.length && !(nl.zip ns).any badN
def znS (nl : List Bool) (ss : List ByteArray) : Bool := nl.length == ss.length && !(nl.zip ss).any badS

set_option maxHeartbeats 2000000 in
theorem zeroN_any (a1 a2 : Option Addr) (c1 c2 : Nat) (nl : List Bool) (ns : List Int) (w : World) (l1 : nl.length ≤ 4398046511104) (l2 : ns.length ≤ 4398046511104) (h1 : LisAt w a1 (nl.map .bool)) (h2 : LisAt w a2 (ns.map (.int .i64))) :
    Calls Tryz.prog 64 #[.slice a1 nl.length c1, .slice a2 ns.length c2] w fun e w' => e = .returned (.bool (znN nl ns)) ∧ w' = w := by
  have H1 := hide h1
  have H2 := hide h2
  clear h1 h2
  by_cases e : nl.length = ns.length
  · obtain ⟨n, hn⟩ : ∃ n, n = ns.length := ⟨_, rfl⟩
    have HZ : Hid (znN nl ns = !(nl.zip ns).any badN) := by show _ = _; simp [znN, e]
    have HZL : Hid ((nl.zip ns).length = n) := by show _ = _; simp [e, hn]
    have HE1 : Hid (nl.length = n) := by show _ = _; rw [e, hn]
    have HE2 : Hid (ns.length = n) := hn.symm
    rw [e, ← hn]
    rw [← hn] at l2
    clear e hn l1
    generalize znN nl ns = Z at HZ ⊢
    go_enter Tryz.func64, Tryz.ntmps64
    go_wp2_with fail
    go_loopw [15] (fun i wr => ∃ k : Nat, k ≤ n ∧ i = .int .i64 k ∧ Hid (∀ i y, i < k → (nl.zip ns)[i]? = some y → badN y = false) ∧ wr = w) (fun i _ => n - (intOf i).toNat)
    case atStart => exact ⟨0, Nat.zero_le _, rfl, fun i y h => by omega, rfl⟩
    case round =>
      obtain ⟨k, hk, rfl, HN, rfl⟩ := hrel
      by_cases h1 : k < n
      · obtain ⟨b, hb⟩ : ∃ b, nl[k]? = some b := ⟨_, List.getElem?_eq_getElem (by rw [unhide HE1]; exact h1)⟩
        obtain ⟨m, hm⟩ : ∃ m, ns[k]? = some m := ⟨_, List.getElem?_eq_getElem (by rw [unhide HE2]; exact h1)⟩
        obtain ⟨pb, po, rfl, cp⟩ := (unhide H1).get (k := k) (x := .bool b) (by simp [hb])
        obtain ⟨qb, qo, rfl, cq⟩ := (unhide H2).get (k := k) (x := .int .i64 m) (by simp [hm])
        have HS := hide (zip_get hb hm)
        have i1 : (k : Int) < (n : Int) := by omega
        clear hb hm
        cases b
        · have HP := hide (stepG (unhide HN) (unhide HS) (by simp [badN]))
          go_wp2
          go_roundw
          case rel => exact ⟨k + 1, by omega, by go_num, HP, by first | rfl | trivial⟩
          case measure => simp [intOf]; omega
        · rcases Bool.eq_false_or_eq_true (m != 0) with em | em
          · have HE : Hid (Z = false) := by show _ = _; rw [unhide HZ, hitG (unhide HS) (by simpa [badN] using em)]; rfl
            go_wp2
            go_ret
            exact ⟨by rw [unhide HE]; rfl, rfl⟩
          · have HP := hide (stepG (unhide HN) (unhide HS) (by simpa [badN] using em))
            go_wp2
            go_roundw
            case rel => exact ⟨k + 1, by omega, by go_num, HP, by first | rfl | trivial⟩
            case measure => simp [intOf]; omega
      · have i1 : ¬ (k : Int) < (n : Int) := by omega
        have HE : Hid (Z = true) := by
          show _ = _
          have e : k = n := by omega
          rw [unhide HZ, noneG (by rw [unhide HZL, ← e]; exact unhide HN)]; rfl
        go_wp2
        go_ret
        exact ⟨by rw [unhide HE]; rfl, rfl⟩
  · have HZ : Hid (znN nl ns = false) := by show _ = _; simp [znN, e]
    have e' : ((nl.length : Int) != (ns.length : Int)) = true := by simp; omega
    clear e
    generalize znN nl ns = Z at HZ ⊢
    go_enter Tryz.func64, Tryz.ntmps64
    go_wp2
    go_ret
    exact ⟨by rw [unhide HZ]; rfl, rfl⟩
set_option maxHeartbeats 2000000 in
theorem zeroS_any (a1 a2 : Option Addr) (c1 c2 : Nat) (nl : List Bool) (ns : List ByteArray) (w : World) (l1 : nl.length ≤ 4398046511104) (l2 : ns.length ≤ 4398046511104) (h1 : LisAt w a1 (nl.map .bool)) (h2 : LisAt w a2 (ns.map .string)) :
    Calls Tryz.prog 65 #[.slice a1 nl.length c1, .slice a2 ns.length c2] w fun e w' => e = .returned (.bool (znS nl ns)) ∧ w' = w := by
  have H1 := hide h1
  have H2 := hide h2
  clear h1 h2
  by_cases e : nl.length = ns.length
  · obtain ⟨n, hn⟩ : ∃ n, n = ns.length := ⟨_, rfl⟩
    have HZ : Hid (znS nl ns = !(nl.zip ns).any badS) := by show _ = _; simp [znS, e]
    have HZL : Hid ((nl.zip ns).length = n) := by show _ = _; simp [e, hn]
    have HE1 : Hid (nl.length = n) := by show _ = _; rw [e, hn]
    have HE2 : Hid (ns.length = n) := hn.symm
    rw [e, ← hn]
    rw [← hn] at l2
    clear e hn l1
    generalize znS nl ns = Z at HZ ⊢
    go_enter Tryz.func65, Tryz.ntmps65
    go_wp2_with fail
    go_loopw [15] (fun i wr => ∃ k : Nat, k ≤ n ∧ i = .int .i64 k ∧ Hid (∀ i y, i < k → (nl.zip ns)[i]? = some y → badS y = false) ∧ wr = w) (fun i _ => n - (intOf i).toNat)
    case atStart => exact ⟨0, Nat.zero_le _, rfl, fun i y h => by omega, rfl⟩
    case round =>
      obtain ⟨k, hk, rfl, HN, rfl⟩ := hrel
      by_cases h1 : k < n
      · obtain ⟨b, hb⟩ : ∃ b, nl[k]? = some b := ⟨_, List.getElem?_eq_getElem (by rw [unhide HE1]; exact h1)⟩
        obtain ⟨m, hm⟩ : ∃ m, ns[k]? = some m := ⟨_, List.getElem?_eq_getElem (by rw [unhide HE2]; exact h1)⟩
        obtain ⟨pb, po, rfl, cp⟩ := (unhide H1).get (k := k) (x := .bool b) (by simp [hb])
        obtain ⟨qb, qo, rfl, cq⟩ := (unhide H2).get (k := k) (x := .string m) (by simp [hm])
        have HS := hide (zip_get hb hm)
        have i1 : (k : Int) < (n : Int) := by omega
        clear hb hm
        cases b
        · have HP := hide (stepG (unhide HN) (unhide HS) (by simp [badS]))
          go_wp2
          go_roundw
          case rel => exact ⟨k + 1, by omega, by go_num, HP, by first | rfl | trivial⟩
          case measure => simp [intOf]; omega
        · rcases Bool.eq_false_or_eq_true (!m.toList.isEmpty) with em | em
          · have HE : Hid (Z = false) := by show _ = _; rw [unhide HZ, hitG (unhide HS) (by simpa [badS] using em)]; rfl
            go_wp2
            go_ret
            exact ⟨by rw [unhide HE]; rfl, rfl⟩
          · have HP := hide (stepG (unhide HN) (unhide HS) (by simpa [badS] using em))
            go_wp2
            go_roundw
            case rel => exact ⟨k + 1, by omega, by go_num, HP, by first | rfl | trivial⟩
            case measure => simp [intOf]; omega
      · have i1 : ¬ (k : Int) < (n : Int) := by omega
        have HE : Hid (Z = true) := by
          show _ = _
          have e : k = n := by omega
          rw [unhide HZ, noneG (by rw [unhide HZL, ← e]; exact unhide HN)]; rfl
        go_wp2
        go_ret
        exact ⟨by rw [unhide HE]; rfl, rfl⟩
  · have HZ : Hid (znS nl ns = false) := by show _ = _; simp [znS, e]
    have e' : ((nl.length : Int) != (ns.length : Int)) = true := by simp; omega
    clear e
    generalize znS nl ns = Z at HZ ⊢
    go_enter Tryz.func65, Tryz.ntmps65
    go_wp2
    go_ret
    exact ⟨by rw [unhide HZ]; rfl, rfl⟩
end Go.Proofs.YtbdkpkpncmagoaaGreat

import Derived.Deep.OwnRows
set_option linter.unusedSimpArgs false
set_option linter.unusedVariables false
namespace Go.Proofs.Ytmgnndbcbalafaa

def sg (f : Nat → Nat) : Nat → Nat
  | 0 => 0
  | k + 1 => sg f k + f k

theorem sg_congr {f g : Nat → Nat} : ∀ k, (∀ j, j < k → f j = g j) → sg f k = sg g k
  | 0, _ => rfl
  | k + 1, h => by simp only [sg]; rw [sg_congr k fun j hj => h j (by omega), h k (by omega)]

theorem sg_le {f g : Nat → Nat} : ∀ k, (∀ j, j < k → f j ≤ g j) → sg f k ≤ sg g k
  | 0, _ => Nat.le_refl _
  | k + 1, h => by simp only [sg]; have := sg_le k fun j hj => h j (by omega); have := h k (by omega); omega

theorem sg_add (f g : Nat → Nat) : ∀ k, sg (fun j => f j + g j) k = sg f k + sg g k
  | 0 => rfl
  | k + 1 => by simp only [sg]; rw [sg_add f g k]; omega

theorem sg_mono (f : Nat → Nat) {k : Nat} : ∀ l, k ≤ l → sg f k ≤ sg f l
  | 0, h => by have : k = 0 := by omega
               subst this; exact Nat.le_refl _
  | l + 1, h => by
    by_cases e : k = l + 1
    · subst e; exact Nat.le_refl _
    · have := sg_mono f (k := k) l (by omega); simp only [sg]; omega

theorem sg_zero {f : Nat → Nat} {k : Nat} (h : ∀ j, k ≤ j → f j = 0) : ∀ l, k ≤ l → sg f l = sg f k
  | 0, e => by have : k = 0 := by omega
               subst this; rfl
  | l + 1, e => by
    by_cases e' : k = l + 1
    · subst e'; rfl
    · simp only [sg]; rw [sg_zero h l (by omega), h l (by omega)]; rfl

/-- Two places that follow one another have changed. -/
theorem sg_two {f g : Nat → Nat} (i : Nat) (h : ∀ j, j ≠ i → j ≠ i + 1 → g j = f j) : ∀ k, sg g (i + 2 + k) + (f i + f (i + 1)) = sg f (i + 2 + k) + (g i + g (i + 1))
  | 0 => by
    simp only [sg]; rw [sg_congr i fun j hj => h j (by omega) (by omega)]; omega
  | k + 1 => by
    have := sg_two i h k
    rw [show i + 2 + (k + 1) = (i + 2 + k) + 1 by omega]; simp only [sg]; rw [h (i + 2 + k) (by omega) (by omega)]; omega

theorem sg_one {f g : Nat → Nat} (i : Nat) (h : ∀ j, j ≠ i → g j = f j) : ∀ k, sg g (i + 1 + k) + f i = sg f (i + 1 + k) + g i
  | 0 => by
    simp only [sg]; rw [sg_congr i fun j hj => h j (by omega)]; omega
  | k + 1 => by
    have := sg_one i h k
    rw [show i + 1 + (k + 1) = (i + 1 + k) + 1 by omega]; simp only [sg]; rw [h (i + 1 + k) (by omega)]; omega

theorem sg_const (b : Nat) : ∀ k, sg (fun _ => b) k = b * k
  | 0 => rfl
  | k + 1 => by simp only [sg]; rw [sg_const b k, Nat.mul_add, Nat.mul_one]

/-- How many are not above x. -/
def cn (x : Int) (l : List Int) : Nat := l.countP fun a => decide (a ≤ x)
abbrev Ris (l : List Int) : Prop := l.Pairwise (· ≤ ·)

@[simp] theorem cn_nil (x : Int) : cn x [] = 0 := rfl
theorem cn_append (x : Int) (l m : List Int) : cn x (l ++ m) = cn x l + cn x m := by simp [cn, List.countP_append]
theorem cn_perm {x : Int} {l m : List Int} (h : l.Perm m) : cn x l = cn x m := h.countP_eq _
theorem cn_le (x : Int) (l : List Int) : cn x l ≤ l.length := List.countP_le_length
theorem cn_up {x y : Int} (h : x ≤ y) (l : List Int) : cn x l ≤ cn y l :=
  List.countP_mono_left fun a _ ha => by simp at ha ⊢; omega
theorem cn_all {x : Int} {l : List Int} (h : ∀ a ∈ l, a ≤ x) : cn x l = l.length :=
  List.countP_eq_length.2 fun a ha => by simpa using h a ha
theorem cn_none {x : Int} {l : List Int} (h : ∀ a ∈ l, x < a) : cn x l = 0 :=
  List.countP_eq_zero.2 fun a ha => by have := h a ha; simp; omega
theorem cn_cons (x a : Int) (l : List Int) : cn x (a :: l) = (if a ≤ x then 1 else 0) + cn x l := by
  simp only [cn, List.countP_cons, decide_eq_true_eq]; omega

def sec : List Int → List Int
  | _ :: b :: l => b :: sec l
  | _ => []
def odd : List Int → List Int
  | _ :: _ :: l => odd l
  | l => l

theorem sec_len : ∀ l : List Int, 2 * (sec l).length + (odd l).length = l.length
  | [] => rfl
  | [_] => rfl
  | _ :: _ :: l => by have := sec_len l; simp only [sec, odd, List.length_cons]; omega
theorem odd_len : ∀ l : List Int, (odd l).length = l.length % 2
  | [] => rfl
  | [_] => rfl
  | _ :: _ :: l => by have := odd_len l; simp only [odd, List.length_cons]; omega
theorem odd_drop : ∀ l : List Int, odd l = l.drop (l.length - l.length % 2)
  | [] => rfl
  | [_] => rfl
  | a :: b :: l => by
    have := odd_drop l
    simp only [odd, List.length_cons]
    rw [show l.length + 1 + 1 - (l.length + 1 + 1) % 2 = (l.length - l.length % 2) + 1 + 1 by omega, this]
    rfl
theorem sec_mem : ∀ {l : List Int} {a : Int}, a ∈ sec l → a ∈ l
  | [], _, h => by cases h
  | [_], _, h => by cases h
  | x :: y :: l, a, h => by
    simp only [sec, List.mem_cons] at h ⊢
    rcases h with h | h
    · exact .inr (.inl h)
    · exact .inr (.inr (sec_mem h))
theorem odd_mem {l : List Int} {a : Int} (h : a ∈ odd l) : a ∈ l := by
  rw [odd_drop] at h; exact List.mem_of_mem_drop h
theorem odd_ris {l : List Int} (h : Ris l) : Ris (odd l) := by
  rw [odd_drop]; exact h.sublist (List.drop_sublist _ _)

theorem sec_cn (x : Int) : ∀ {l : List Int}, Ris l → cn x (odd l) + 2 * cn x (sec l) ≤ cn x l ∧ cn x l ≤ cn x (odd l) + 2 * cn x (sec l) + 1
  | [], _ => by simp [sec, odd]
  | [a], _ => by simp [sec, odd]
  | a :: b :: l, h => by
    have h1 : Ris l := (List.pairwise_cons.1 (List.pairwise_cons.1 h).2).2
    have hb : ∀ y ∈ l, b ≤ y := (List.pairwise_cons.1 (List.pairwise_cons.1 h).2).1
    have hab : a ≤ b := (List.pairwise_cons.1 h).1 b (by simp)
    have ih := sec_cn x h1
    simp only [sec, odd]
    rw [cn_cons, cn_cons, cn_cons]
    by_cases e : b ≤ x
    · rw [if_pos e, if_pos (by omega)]; omega
    · have e1 : cn x l = 0 := cn_none fun y hy => by have := hb y hy; omega
      rw [if_neg e]
      by_cases e2 : a ≤ x
      · rw [if_pos e2]; omega
      · rw [if_neg e2]; omega

/-- The loop's round. -/
theorem sec_take : ∀ (l : List Int) (k : Nat) (a : Int), l[2 * k + 1]? = some a → sec (l.take (2 * (k + 1))) = sec (l.take (2 * k)) ++ [a]
  | [], _, _, h => by cases h
  | [_], k, _, h => by simp at h
  | x :: y :: l, 0, a, h => by
    simp only [Nat.mul_zero, Nat.zero_add, List.getElem?_cons_succ, List.getElem?_cons_zero, Option.some.injEq] at h
    subst h; rfl
  | x :: y :: l, k + 1, a, h => by
    have h' : l[2 * k + 1]? = some a := by
      rw [show 2 * (k + 1) + 1 = (2 * k + 1) + 1 + 1 by omega] at h
      simpa using h
    have := sec_take l k a h'
    rw [show 2 * (k + 1 + 1) = 2 * (k + 1) + 1 + 1 by omega, show 2 * (k + 1) = 2 * k + 1 + 1 by omega]
    simp only [List.take_succ_cons, sec, List.cons_append]
    rw [show 2 * k + 1 + 1 = 2 * (k + 1) by omega, this]
theorem sec_even : ∀ (l : List Int), sec (l.take (l.length - l.length % 2)) = sec l
  | [] => rfl
  | [_] => rfl
  | a :: b :: l => by
    have := sec_even l
    simp only [List.length_cons]
    rw [show l.length + 1 + 1 - (l.length + 1 + 1) % 2 = (l.length - l.length % 2) + 1 + 1 by omega]
    simp only [List.take_succ_cons, sec]
    rw [this]

def up {α : Type} (f : Nat → α) (i : Nat) (v : α) : Nat → α := fun j => if j = i then v else f j
@[simp] theorem up_same {α : Type} (f : Nat → α) (i : Nat) (v : α) : up f i v i = v := by simp [up]
theorem up_ne {α : Type} {f : Nat → α} {i j : Nat} {v : α} (h : j ≠ i) : up f i v j = f j := by simp [up, h]

/-- What a sketch of what has come (xs) keeps: N levels lv; h: how often each has been thinned. -/
structure Good (c N : Nat) (lv : Nat → List Int) (h : Nat → Nat) (sl : Nat) (xs : List Int) : Prop where
  pos : 1 ≤ N
  beyond : ∀ j, N ≤ j → lv j = [] ∧ h j = 0
  ris : ∀ j, Ris (lv j)
  from' : ∀ j, ∀ a ∈ lv j, a ∈ xs
  weight : sg (fun j => (lv j).length * 2 ^ j) N = xs.length
  low : ∀ x, sg (fun j => cn x (lv j) * 2 ^ j) N ≤ cn x xs ∧ cn x xs ≤ sg (fun j => cn x (lv j) * 2 ^ j) N + sl
  slack : sl = sg (fun j => h j * 2 ^ j) N
  gone : ∀ i, c * (h i * 2 ^ i) + sg (fun j => (lv j).length * 2 ^ j) (i + 1) ≤ xs.length
  deep : ∀ i, i + 1 < N → c * 2 ^ i ≤ xs.length

theorem good_new (c : Nat) : Good c 1 (fun _ => []) (fun _ => 0) 0 [] := by
  refine ⟨Nat.le_refl _, fun _ _ => ⟨rfl, rfl⟩, fun _ => List.Pairwise.nil, fun _ a h => (List.not_mem_nil h).elim, ?_, fun x => ?_, ?_, fun i => ?_, fun i hi => by omega⟩
  · simp [sg]
  · simp [sg]
  · simp [sg]
  · simp [sg_const]

theorem sgN {c N : Nat} {lv : Nat → List Int} {h : Nat → Nat} {sl : Nat} {xs : List Int} (g : Good c N lv h sl xs) (q : List Int → Nat) (hq : q [] = 0) (k : Nat) (hk : N ≤ k) :
    sg (fun j => q (lv j) * 2 ^ j) k = sg (fun j => q (lv j) * 2 ^ j) N :=
  sg_zero (fun j hj => by rw [(g.beyond j hj).1, hq, Nat.zero_mul]) k hk

theorem Good.halve {c N : Nat} {lv : Nat → List Int} {h : Nat → Nat} {sl : Nat} {xs : List Int} (g : Good c N lv h sl xs) (hc : c % 2 = 0) (i : Nat) (hi : i < N) (hl : c ≤ (lv i).length)
    {t : List Int} (ht : Ris t) (hp : t.Perm (lv (i + 1) ++ sec (lv i))) :
    Good c (max N (i + 2)) (up (up lv i (odd (lv i))) (i + 1) t) (up h i (h i + 1)) (sl + 2 ^ i) xs := by
  have e0 : up (up lv i (odd (lv i))) (i + 1) t i = odd (lv i) := by rw [up_ne (by omega), up_same]
  have e1 : up (up lv i (odd (lv i))) (i + 1) t (i + 1) = t := up_same ..
  have e2 : ∀ j, j ≠ i → j ≠ i + 1 → up (up lv i (odd (lv i))) (i + 1) t j = lv j := fun j a b => by rw [up_ne b, up_ne a]
  obtain ⟨lw, elw⟩ : ∃ lw, up (up lv i (odd (lv i))) (i + 1) t = lw := ⟨_, rfl⟩
  rw [elw] at e0 e1 e2 ⊢
  obtain ⟨d, hd⟩ : ∃ d, max N (i + 2) = i + 2 + d := ⟨max N (i + 2) - (i + 2), by omega⟩
  rw [hd]
  have htl : t.length = (lv (i + 1)).length + (sec (lv i)).length := by rw [hp.length_eq, List.length_append]
  have hsl := sec_len (lv i)
  have hol := odd_len (lv i)
  have hpow : 2 ^ (i + 1) = 2 * 2 ^ i := by rw [Nat.pow_succ]; omega
  have W : ∀ k, sg (fun j => (lw j).length * 2 ^ j) (i + 2 + k) = sg (fun j => (lv j).length * 2 ^ j) (i + 2 + k) := fun k => by
    have := sg_two (f := fun j => (lv j).length * 2 ^ j) (g := fun j => (lw j).length * 2 ^ j) i (fun j a b => by rw [e2 j a b]) k
    simp only [e0, e1, htl, hpow] at this
    have hh : (odd (lv i)).length * 2 ^ i + ((lv (i + 1)).length + (sec (lv i)).length) * (2 * 2 ^ i) = (lv i).length * 2 ^ i + (lv (i + 1)).length * (2 * 2 ^ i) := by
      rw [← hsl]; simp only [Nat.add_mul, Nat.mul_assoc, Nat.mul_left_comm _ 2]; omega
    omega
  refine ⟨by omega, fun j hj => ⟨by rw [e2 j (by omega) (by omega)]; exact (g.beyond j (by omega)).1, by rw [up_ne (by omega)]; exact (g.beyond j (by omega)).2⟩, fun j => ?_, fun j a ha => ?_, ?_, fun x => ?_, ?_, fun k => ?_, fun k hk => ?_⟩
  · by_cases a : j = i
    · subst a; rw [e0]; exact odd_ris (g.ris _)
    by_cases b : j = i + 1
    · subst b; rw [e1]; exact ht
    rw [e2 j a b]; exact g.ris j
  · by_cases a1 : j = i
    · subst a1; rw [e0] at ha; exact g.from' _ a (odd_mem ha)
    by_cases b : j = i + 1
    · subst b; rw [e1] at ha
      rcases List.mem_append.1 (hp.mem_iff.1 ha) with h1 | h1
      · exact g.from' _ a h1
      · exact g.from' _ a (sec_mem h1)
    rw [e2 j a1 b] at ha; exact g.from' j a ha
  · rw [W, sgN g List.length rfl _ (by omega)]; exact g.weight
  · have := sg_two (f := fun j => cn x (lv j) * 2 ^ j) (g := fun j => cn x (lw j) * 2 ^ j) i (fun j a b => by rw [e2 j a b]) d
    simp only [e0, e1, hpow, cn_perm hp, cn_append] at this
    have k1 := sec_cn x (g.ris i)
    have k2 : (cn x (odd (lv i)) + 2 * cn x (sec (lv i))) * 2 ^ i ≤ cn x (lv i) * 2 ^ i := Nat.mul_le_mul_right _ k1.1
    have k3 : cn x (lv i) * 2 ^ i ≤ (cn x (odd (lv i)) + 2 * cn x (sec (lv i)) + 1) * 2 ^ i := Nat.mul_le_mul_right _ k1.2
    have k4 := sgN g (cn x) rfl (i + 2 + d) (by omega)
    have k5 := g.low x
    simp only [Nat.add_mul, Nat.mul_assoc, Nat.mul_left_comm _ 2, Nat.one_mul] at this k2 k3
    omega
  · have := sg_one (f := fun j => h j * 2 ^ j) (g := fun j => up h i (h i + 1) j * 2 ^ j) i (fun j a => by rw [up_ne a]) (1 + d)
    simp only [up_same, Nat.add_mul, Nat.one_mul] at this
    have k : sg (fun j => h j * 2 ^ j) (i + 1 + (1 + d)) = sg (fun j => h j * 2 ^ j) N := sg_zero (fun j hj => by rw [(g.beyond j hj).2, Nat.zero_mul]) _ (by omega)
    have := g.slack
    rw [show i + 2 + d = i + 1 + (1 + d) by omega]
    omega
  · by_cases a : k < i
    · rw [up_ne (by omega), sg_congr (k + 1) (g := fun j => (lv j).length * 2 ^ j) fun j hj => by rw [e2 j (by omega) (by omega)]]
      exact g.gone k
    by_cases b : k = i
    · subst b
      rw [up_same]
      have := g.gone k
      simp only [sg, e0] at this ⊢
      rw [sg_congr k (g := fun j => (lv j).length * 2 ^ j) fun j hj => by rw [e2 j (by omega) (by omega)]]
      have hh : (c + (odd (lv k)).length) * 2 ^ k ≤ (lv k).length * 2 ^ k := Nat.mul_le_mul_right _ (by omega)
      simp only [Nat.add_mul, Nat.mul_add, Nat.one_mul] at hh ⊢
      omega
    · obtain ⟨q, rfl⟩ : ∃ q, k = i + 1 + q := ⟨k - (i + 1), by omega⟩
      rw [up_ne (by omega), show i + 1 + q + 1 = i + 2 + q by omega, W]
      have := g.gone (i + 1 + q)
      rwa [show i + 1 + q + 1 = i + 2 + q by omega] at this
  · by_cases a : k + 1 < N
    · exact g.deep k a
    · have : k = i := by omega
      subst this
      have h1 := g.gone k
      have h2 : c * 2 ^ k ≤ (lv k).length * 2 ^ k := Nat.mul_le_mul_right _ hl
      simp only [sg] at h1
      omega

theorem Good.insert {c N : Nat} {lv : Nat → List Int} {h : Nat → Nat} {sl : Nat} {xs : List Int} (g : Good c N lv h sl xs) (x : Int) {t : List Int} (ht : Ris t) (hp : t.Perm (x :: lv 0)) :
    Good c N (up lv 0 t) h sl (xs ++ [x]) := by
  obtain ⟨lw, elw⟩ : ∃ lw, up lv 0 t = lw := ⟨_, rfl⟩
  have e0 : lw 0 = t := by rw [← elw, up_same]
  have e1 : ∀ j, j ≠ 0 → lw j = lv j := fun j hj => by rw [← elw, up_ne hj]
  rw [elw]
  have hpos := g.pos
  have htl : t.length = (lv 0).length + 1 := by rw [hp.length_eq, List.length_cons]
  have W : ∀ k, sg (fun j => (lw j).length * 2 ^ j) (k + 1) = sg (fun j => (lv j).length * 2 ^ j) (k + 1) + 1 := fun k => by
    have := sg_one (f := fun j => (lv j).length * 2 ^ j) (g := fun j => (lw j).length * 2 ^ j) 0 (fun j a => by rw [e1 j a]) k
    simp only [e0, htl, Nat.pow_zero, Nat.mul_one] at this
    rw [show k + 1 = 0 + 1 + k by omega]; omega
  refine ⟨hpos, fun j hj => ⟨by rw [e1 j (by omega)]; exact (g.beyond j hj).1, (g.beyond j hj).2⟩, fun j => ?_, fun j a ha => ?_, ?_, fun y => ?_, g.slack, fun k => ?_, fun k hk => ?_⟩
  · by_cases a : j = 0
    · subst a; rw [e0]; exact ht
    · rw [e1 j a]; exact g.ris j
  · by_cases b : j = 0
    · subst b; rw [e0] at ha
      rcases List.mem_cons.1 (hp.mem_iff.1 ha) with h1 | h1
      · subst h1; simp
      · exact List.mem_append_left _ (g.from' _ a h1)
    · rw [e1 j b] at ha; exact List.mem_append_left _ (g.from' j a ha)
  · obtain ⟨M, rfl⟩ : ∃ M, N = M + 1 := ⟨N - 1, by omega⟩
    rw [W, g.weight, List.length_append]; rfl
  · obtain ⟨M, rfl⟩ : ∃ M, N = M + 1 := ⟨N - 1, by omega⟩
    have := sg_one (f := fun j => cn y (lv j) * 2 ^ j) (g := fun j => cn y (lw j) * 2 ^ j) 0 (fun j a => by rw [e1 j a]) M
    simp only [e0, cn_perm hp, cn_cons, Nat.pow_zero, Nat.mul_one] at this
    have h1 := g.low y
    rw [cn_append, cn_cons, cn_nil]
    rw [show 0 + 1 + M = M + 1 by omega] at this
    omega
  · have := g.gone k
    rw [W, List.length_append]; simp only [List.length_cons, List.length_nil]; omega
  · have := g.deep k hk
    rw [List.length_append]; omega

theorem Good.merge {c N M : Nat} {lv lw : Nat → List Int} {h h' : Nat → Nat} {sl sl' : Nat} {xs ys : List Int} (g : Good c N lv h sl xs) (g' : Good c M lw h' sl' ys)
    {lt : Nat → List Int} (ht : ∀ j, Ris (lt j)) (hp : ∀ j, (lt j).Perm (lv j ++ lw j)) :
    Good c (max N M) lt (fun j => h j + h' j) (sl + sl') (xs ++ ys) := by
  have hpos := g.pos
  have W : ∀ k, sg (fun j => (lt j).length * 2 ^ j) k = sg (fun j => (lv j).length * 2 ^ j) k + sg (fun j => (lw j).length * 2 ^ j) k := fun k => by
    rw [← sg_add]; exact sg_congr k fun j _ => by rw [(hp j).length_eq, List.length_append, Nat.add_mul]
  refine ⟨by omega, fun j hj => ⟨?_, ?_⟩, ht, fun j a ha => ?_, ?_, fun x => ?_, ?_, fun k => ?_, fun k hk => ?_⟩
  · have := hp j
    rw [(g.beyond j (by omega)).1, (g'.beyond j (by omega)).1] at this
    exact List.Perm.eq_nil this
  · rw [(g.beyond j (by omega)).2, (g'.beyond j (by omega)).2]
  · rcases List.mem_append.1 ((hp j).mem_iff.1 ha) with h1 | h1
    · exact List.mem_append_left _ (g.from' j a h1)
    · exact List.mem_append_right _ (g'.from' j a h1)
  · rw [W, sgN g List.length rfl _ (by omega), sgN g' List.length rfl _ (by omega), g.weight, g'.weight, List.length_append]
  · have e : sg (fun j => cn x (lt j) * 2 ^ j) (max N M) = sg (fun j => cn x (lv j) * 2 ^ j) N + sg (fun j => cn x (lw j) * 2 ^ j) M := by
      rw [← sgN g (cn x) rfl (max N M) (by omega), ← sgN g' (cn x) rfl (max N M) (by omega), ← sg_add]
      exact sg_congr _ fun j _ => by rw [cn_perm (hp j), cn_append, Nat.add_mul]
    have := g.low x; have := g'.low x
    rw [e, cn_append]; omega
  · have k1 : sg (fun j => h j * 2 ^ j) (max N M) = sg (fun j => h j * 2 ^ j) N := sg_zero (fun j hj => by rw [(g.beyond j hj).2, Nat.zero_mul]) _ (by omega)
    have k2 : sg (fun j => h' j * 2 ^ j) (max N M) = sg (fun j => h' j * 2 ^ j) M := sg_zero (fun j hj => by rw [(g'.beyond j hj).2, Nat.zero_mul]) _ (by omega)
    rw [g.slack, g'.slack, ← k1, ← k2, ← sg_add]
    exact sg_congr _ fun j _ => by rw [Nat.add_mul]
  · have := g.gone k; have := g'.gone k
    rw [W, List.length_append]
    simp only [Nat.add_mul, Nat.mul_add] at *
    omega
  · rw [List.length_append]
    by_cases a : k + 1 < N
    · have := g.deep k a; omega
    · have := g'.deep k (by omega); omega

/-- The number of bits. -/
def bitsN (n : Nat) : Nat := if n = 0 then 0 else bitsN (n / 2) + 1
decreasing_by omega
theorem bits_lt : ∀ (i n : Nat), 2 ^ i ≤ n → i < bitsN n
  | 0, n, h => by rw [bitsN, if_neg (by simp at h; omega)]; omega
  | i + 1, n, h => by
    have h1 : 2 ^ i ≤ n / 2 := by rw [Nat.pow_succ] at h; omega
    have := bits_lt i (n / 2) h1
    have hp : 0 < 2 ^ (i + 1) := Nat.two_pow_pos _
    rw [bitsN, if_neg (by omega)]; omega
theorem bits_le : ∀ (i n : Nat), n < 2 ^ i → bitsN n ≤ i
  | 0, n, h => by rw [bitsN, if_pos (by simp at h; omega)]; omega
  | i + 1, n, h => by
    by_cases e : n = 0
    · rw [bitsN, if_pos e]; omega
    have h1 : n / 2 < 2 ^ i := by rw [Nat.pow_succ] at h; omega
    have := bits_le i (n / 2) h1
    rw [bitsN, if_neg e]; omega

section told
variable {c N : Nat} {lv : Nat → List Int} {h : Nat → Nat} {sl : Nat} {xs : List Int}

theorem Good.depth (g : Good c N lv h sl xs) (hc : 0 < c) : N ≤ bitsN (xs.length / c) + 1 := by
  by_cases e : N ≤ 1
  · omega
  have := g.deep (N - 2) (by omega)
  have := bits_lt (N - 2) (xs.length / c) ((Nat.le_div_iff_mul_le hc).2 (by rw [Nat.mul_comm]; exact this))
  omega

theorem Good.near (g : Good c N lv h sl xs) (hc : 0 < c) : sl ≤ bitsN (xs.length / c) * xs.length / c := by
  rw [Nat.le_div_iff_mul_le hc]
  obtain ⟨L, hL⟩ : ∃ L, bitsN (xs.length / c) = L := ⟨_, rfl⟩
  rw [hL]
  have key : ∀ i, c * (h i * 2 ^ i) ≤ if i < L then xs.length else 0 := fun i => by
    have h1 := g.gone i
    by_cases e : h i = 0
    · rw [e]; simp
    have h2 : c * 2 ^ i ≤ c * (h i * 2 ^ i) := Nat.mul_le_mul_left _ (by have := Nat.mul_le_mul_right (2 ^ i) (show 1 ≤ h i by omega); omega)
    have := bits_lt i (xs.length / c) ((Nat.le_div_iff_mul_le hc).2 (by rw [Nat.mul_comm]; omega))
    rw [if_pos (by omega)]; omega
  have tot : ∀ k, sg (fun j => h j * 2 ^ j) k * c ≤ min k L * xs.length := by
    intro k
    induction k with
    | zero => simp [sg]
    | succ k ih =>
      have := key k
      simp only [sg]; rw [Nat.add_mul, Nat.mul_comm (h k * 2 ^ k) c]
      by_cases e : k < L
      · rw [if_pos e] at this
        rw [show min (k + 1) L = min k L + 1 by omega, Nat.add_mul, Nat.one_mul]; omega
      · rw [if_neg e] at this
        rw [show min (k + 1) L = min k L by omega]; omega
  have h3 := tot N
  rw [← g.slack] at h3
  exact Nat.le_trans h3 (Nat.mul_le_mul_right _ (by omega))

theorem Good.size (g : Good c N lv h sl xs) (hc : 0 < c) (hs : ∀ j, (lv j).length < c) : sg (fun j => (lv j).length) N ≤ c * (bitsN (xs.length / c) + 1) := by
  have h1 := sg_le (f := fun j => (lv j).length) (g := fun _ => c) N fun j _ => by have := hs j; omega
  rw [sg_const] at h1
  exact Nat.le_trans h1 (Nat.mul_le_mul_left _ (g.depth hc))

theorem Good.most (g : Good c N lv h sl xs) {x : Int} (hx : ∀ a ∈ xs, a ≤ x) : sg (fun j => cn x (lv j) * 2 ^ j) N = xs.length := by
  rw [← g.weight]
  exact sg_congr N fun j _ => by rw [cn_all fun a ha => hx a (g.from' j a ha)]

theorem low_up (lv : Nat → List Int) {x y : Int} (h : x ≤ y) (N : Nat) : sg (fun j => cn x (lv j) * 2 ^ j) N ≤ sg (fun j => cn y (lv j) * 2 ^ j) N :=
  sg_le N fun j _ => Nat.mul_le_mul_right _ (cn_up h _)
end told
end Go.Proofs.Ytmgnndbcbalafaa

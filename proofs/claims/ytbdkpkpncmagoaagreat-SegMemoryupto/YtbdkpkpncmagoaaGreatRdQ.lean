import Derived.Test.YtbdkpkpncmagoaaGreatRdP
import Derived.Test.YtbdkpkpncmagoaaGreatPackX
import Derived.Test.YtbdkpkpncmagoaaGreatMmM
import Derived.Test.YtbdkpkpncmagoaaGreatTabB
import Derived.Test.YtbdkpkpncmagoaaGreatPackO
import Derived.Test.YtbdkpkpncmagoaaGreatMmK
set_option linter.unusedSimpArgs false
set_option linter.unusedVariables false
namespace Go.Proofs.YtbdkpkpncmagoaaGreat
open Go.RowKit Go.Sort

theorem ofI_nat (k : Nat) (h : k < 256) : (ofI (k : Int)).toNat = k := by simp [ofI]; omega
theorem two8 (m : Nat) : (2 : Int) ^ (8 * m) = ((256 ^ m : Nat) : Int) := by
  have : (2 : Nat) ^ (8 * m) = 256 ^ m := by rw [Nat.pow_mul]
  rw [← this, Int.natCast_pow]; rfl
theorem castdm (U p : Nat) : (U : Int) / (p : Int) % 256 = ((U / p % 256 : Nat) : Int) := by rw [Int.natCast_emod, Int.natCast_ediv]; rfl
theorem beV_take (U n : Nat) : ∀ k, k ≤ n → beV ((beL (U : Int) n k).map ofI) = U / 256 ^ (n - k) % 256 ^ k := by
  intro k
  induction k with
  | zero => intro _; simp [beL, beV, Nat.mod_one]
  | succ k ih =>
    intro hk
    have e : beL (U : Int) n (k + 1) = beL (U : Int) n k ++ [beN (U : Int) n k] := by simp [beL, List.range_succ]
    rw [e, List.map_append, List.map_cons, List.map_nil, beV_snoc, ih (by omega)]
    have e2 : beN (U : Int) n k = ((U / 256 ^ (n - (k + 1)) % 256 : Nat) : Int) := by
      unfold beN
      rw [show n - 1 - k = n - (k + 1) by omega, two8, castdm]
    rw [e2, ofI_nat _ (Nat.mod_lt _ (by decide))]
    have e3 : n - k = n - (k + 1) + 1 := by omega
    rw [e3, Nat.pow_succ, ← Nat.div_div_eq_div_mul]
    generalize U / 256 ^ (n - (k + 1)) = x
    rw [Nat.pow_succ, Nat.mul_comm (256 ^ k) 256, Nat.mod_mul]
    omega
theorem beV_back (U n : Nat) (h : U < 256 ^ n) : beV ((beL (U : Int) n n).map ofI) = U := by
  rw [beV_take U n n (Nat.le_refl _)]; simp [Nat.mod_eq_of_lt h]
theorem leB_cons (T m : Nat) : leB T (m + 1) = ((T % 256 : Nat) : Int) :: leB (T / 256) m := by
  unfold leB
  rw [List.range_succ_eq_map, List.map_cons, List.map_map]
  congr 1
  · simp [byteN]
  · apply List.map_congr_left
    intro j _
    simp only [Function.comp, byteN, Nat.succ_eq_add_one, Nat.pow_succ, Nat.mul_comm (256 ^ j) 256, Nat.div_div_eq_div_mul]
theorem leV_back : ∀ (m T : Nat), leV ((leB T m).map ofI) = T % 256 ^ m
  | 0, T => by simp [leB, leV, Nat.mod_one]
  | m + 1, T => by
    rw [leB_cons, List.map_cons, leV, leV_back m, ofI_nat _ (Nat.mod_lt _ (by decide)), Nat.pow_succ, Nat.mul_comm (256 ^ m) 256, Nat.mod_mul]
theorem leB_forth : ∀ l : List UInt8, leB (leV l) l.length = l.map fun b => (b.toNat : Int)
  | [] => by simp [leB]
  | b :: l => by
    have h2 := b.toNat_lt
    rw [List.length_cons, leB_cons, leV, List.map_cons, ← leB_forth l]
    congr 1
    · congr 1; omega
    · congr 1; omega
theorem beL_forth (l : List UInt8) : beL ((beV l : Nat) : Int) l.length l.length = l.map fun b => (b.toNat : Int) := by
  apply List.ext_getElem
  · simp [beL]
  intro i h1 h2
  simp only [beL, List.length_map, List.length_range] at h1
  simp only [beL, List.getElem_map, List.getElem_range, beN]
  rw [two8, castdm]
  congr 1
  have key : ∀ (k : Nat) (l : List UInt8) (i : Nat) (hi : i < l.length), l.length = i + 1 + k → beV l / 256 ^ k % 256 = (l[i]).toNat := by
    intro k
    induction k with
    | zero =>
      intro l i hi hl
      have hne : l ≠ [] := by intro h; simp [h] at hi
      have e := List.dropLast_concat_getLast hne
      have e2 : l[i] = l.getLast hne := by rw [List.getLast_eq_getElem]; congr 1; omega
      rw [e2]
      conv => lhs; rw [← e, beV_snoc]
      have := (l.getLast hne).toNat_lt
      omega
    | succ k ih =>
      intro l i hi hl
      have hne : l ≠ [] := by intro h; simp [h] at hi
      have e := List.dropLast_concat_getLast hne
      have e3 : l[i] = l.dropLast[i]'(by simp; omega) := by simp
      rw [e3, ← ih l.dropLast i (by simp; omega) (by simp; omega)]
      conv => lhs; rw [← e, beV_snoc]
      rw [Nat.pow_succ, Nat.mul_comm (256 ^ k) 256, ← Nat.div_div_eq_div_mul]
      have := (l.getLast hne).toNat_lt
      congr 2
      omega
  have := key (l.length - 1 - i) l i h1 (by omega)
  exact this
theorem numAt_total (d : Nat) : ∀ (ns : List Nat) (i : Nat) (h : i < ns.length), numAt (total d ns) d i = ns[i] % 2 ^ d
  | n :: ns, 0, _ => by simp [numAt, total]
  | n :: ns, i + 1, h => by
    have ih := numAt_total d ns i (by simpa using h)
    unfold numAt at ih ⊢
    rw [Nat.mul_succ, Nat.add_comm, Nat.pow_add, ← Nat.div_div_eq_div_mul, total]
    have h1 : n % 2 ^ d < 2 ^ d := Nat.mod_lt _ (Nat.two_pow_pos d)
    rw [Nat.add_mul_div_left _ _ (Nat.two_pow_pos d), Nat.div_eq_of_lt h1, Nat.zero_add, ih]
    simp
theorem total_nums (d : Nat) : ∀ (m T : Nat), total d ((List.range m).map (numAt T d)) = T % 2 ^ (d * m)
  | 0, T => by simp [total, Nat.mod_one]
  | m + 1, T => by
    have ih := total_nums d m (T / 2 ^ d)
    have e : (List.range (m + 1)).map (numAt T d) = numAt T d 0 :: (List.range m).map (numAt (T / 2 ^ d) d) := by
      rw [List.range_succ_eq_map, List.map_cons, List.map_map]
      congr 1
      apply List.map_congr_left
      intro j _
      simp only [Function.comp, numAt, Nat.succ_eq_add_one, Nat.mul_succ, Nat.add_comm (d * j) d, Nat.pow_add, Nat.div_div_eq_div_mul]
    rw [e, total, ih, Nat.mul_succ, Nat.add_comm (d * m) d, Nat.pow_add, Nat.mod_mul]
    simp [numAt]
/-- Numbers as bytes. -/
def en (zs : List Int) : List UInt8 := zs.map ofI
theorem en_append (a b : List Int) : en (a ++ b) = en a ++ en b := List.map_append
theorem en_len (a : List Int) : (en a).length = a.length := List.length_map ..
theorem beL_length (U : Int) (n k : Nat) : (beL U n k).length = k := by simp [beL]
theorem leB_length (T m : Nat) : (leB T m).length = m := by simp [leB]
theorem takeD_app (a r : List UInt8) (n : Nat) (h : a.length = n) : takeD n (a ++ r) = some (a, r) := by
  subst h; simp [takeD]
theorem numD_app (U n : Nat) (r : List UInt8) (h : U < 256 ^ n) : numD n (en (beL (U : Int) n n) ++ r) = some (U, r) := by
  have hl : (en (beL (U : Int) n n)).length = n := by rw [en_len, beL_length]
  unfold numD
  rw [if_pos (by rw [List.length_append, hl]; omega)]
  have e1 : (en (beL (U : Int) n n) ++ r).take n = en (beL (U : Int) n n) := by rw [List.take_append_of_le_length (by omega), List.take_of_length_le (by omega)]
  have e2 : (en (beL (U : Int) n n) ++ r).drop n = r := by rw [List.drop_append_of_le_length (by omega), List.drop_of_length_le (by omega), List.nil_append]
  rw [e1, e2]
  show some (beV ((beL (U : Int) n n).map ofI), r) = _
  rw [beV_back U n h]
theorem en_txt (s : ByteArray) : en (txt s) = s.data.toList := by
  unfold en txt
  rw [List.map_map]
  conv => rhs; rw [← List.map_id s.data.toList]
  apply List.map_congr_left
  intro b _
  simp [ofI]
/-- A value of this kind, as it is packed. -/
def Fits (kind : Int) (x : Val) : Prop := (kind = 1 ∧ ∃ n, -9223372036854775808 ≤ n ∧ n ≤ 9223372036854775807 ∧ x = .num n) ∨ (kind = 2 ∧ ∃ s : ByteArray, s.size ≤ 1000 ∧ x = .str s)
theorem plainD_back {kind : Int} {x : Val} (h : Fits kind x) (r : List UInt8) : plainD kind (en (plainL x) ++ r) = some (x, r) := by
  rcases h with ⟨rfl, n, h1, h2, rfl⟩ | ⟨rfl, s, h1, rfl⟩
  · have e : plainL (.num n) = beL (((n % 18446744073709551616).toNat : Nat) : Int) 8 8 := by
      have : (((n % 18446744073709551616).toNat : Nat) : Int) = n % 18446744073709551616 := by omega
      rw [this]
      simp [plainL, Val.num, IntKind.wrap_u64]
    rw [e]
    unfold plainD
    rw [if_pos (by decide), numD_app _ 8 r (by have : (256:Nat)^8 = 18446744073709551616 := by decide
                                               omega)]
    have e3 : sint (n % 18446744073709551616).toNat = n := by unfold sint wrap64; omega
    simp only [Option.map_some, e3]
  · have e : plainL (.str s) = beL (s.size : Int) 2 2 ++ txt s := by simp [plainL, Val.str]
    rw [e, en_append, List.append_assoc]
    unfold plainD
    rw [if_neg (by decide), numD_app s.size 2 _ (by have : (256:Nat)^2 = 65536 := by decide
                                                    omega), en_txt]
    simp only [Option.bind_some]
    rw [if_pos h1, takeD_app _ _ _ (by rw [Array.length_toList]; rfl)]
    rfl
theorem plainsD_snoc (kind : Int) : ∀ (xs : List Val) (r : List UInt8), (∀ x ∈ xs, Fits kind x) → plainsD kind xs.length (en (plains xs) ++ r) = some (xs, r) := by
  intro xs
  suffices h : ∀ (n : Nat) (xs : List Val), xs.length = n → ∀ (r : List UInt8), (∀ x ∈ xs, Fits kind x) → plainsD kind n (en (plains xs) ++ r) = some (xs, r) from fun r hx => h _ xs rfl r hx
  intro n
  induction n with
  | zero => intro xs hl r _; have : xs = [] := List.eq_nil_of_length_eq_zero hl; subst this; simp [plainsD, plains, en]
  | succ n ih =>
    intro xs hl r hx
    have hne : xs ≠ [] := by intro h; simp [h] at hl
    have e := List.dropLast_concat_getLast hne
    have e2 : plains xs = plains xs.dropLast ++ plainL (xs.getLast hne) := by
      conv => lhs; rw [← e]
      simp [plains]
    rw [e2, en_append, List.append_assoc, plainsD, ih xs.dropLast (by simp [hl]) _ (fun x h => hx x (List.dropLast_subset xs h))]
    simp only [Option.bind_some]
    rw [plainD_back (hx _ (List.getLast_mem hne))]
    simp only [Option.map_some, e]
theorem bytesN_pow (k d : Nat) : 2 ^ (d * k) ≤ 256 ^ bytesN k d := by
  rw [show (256 : Nat) = 2 ^ 8 by rfl, ← Nat.pow_mul]
  exact Nat.pow_le_pow_right (by decide) (by unfold bytesN; rw [Nat.mul_comm d k]; omega)
theorem bitsD_back (d : Nat) (ns : List Nat) (hn : ∀ n ∈ ns, n < 2 ^ d) (r : List UInt8) :
    ∃ t, bitsD ns.length d (en (leB (total d ns) (bytesN ns.length d)) ++ r) = some (t, r) ∧ numsOf t d ns.length = ns := by
  have hT := total_lt d ns
  have hb := bytesN_pow ns.length d
  have e : leV (en (leB (total d ns) (bytesN ns.length d))) = total d ns := by
    show leV ((leB _ _).map ofI) = _
    rw [leV_back, Nat.mod_eq_of_lt (by omega)]
  refine ⟨en (leB (total d ns) (bytesN ns.length d)), ?_, ?_⟩
  · unfold bitsD
    rw [takeD_app _ _ _ (by rw [en_len, leB_length])]
    simp only [Option.bind_some]
    rw [if_pos (by rw [e]; exact hT)]
  · unfold numsOf
    rw [e]
    apply List.ext_getElem
    · simp
    · intro i h1 h2
      simp only [List.getElem_map, List.getElem_range]
      rw [numAt_total d ns i h2, Nat.mod_eq_of_lt (hn _ (List.getElem_mem h2))]
theorem ord_num (a b : Int) : ordV (.num a) (.num b) = cmpI a b := by
  unfold ordV
  show orI (cmpI 1 1) (cmpI a b) (cmpB ⟨#[]⟩ ⟨#[]⟩) = _
  rw [cmpI_self, cmpB_nil, orI_last]
theorem ord_numle (a b : Int) : ordV (.num a) (.num b) ≤ 0 ↔ a ≤ b := by
  rw [ord_num]
  unfold cmpI
  split
  · omega
  · split <;> omega
theorem min_spec : ∀ (ys : List Val) (m : Val), minFrom m ys ∈ m :: ys ∧ ∀ y ∈ m :: ys, ordV (minFrom m ys) y ≤ 0
  | [], m => ⟨by simp [minFrom], fun y hy => by simp at hy; subst hy; rw [minFrom, List.foldl_nil, ord_self]; omega⟩
  | z :: ys, m => by
    have e : minFrom m (z :: ys) = minFrom (if ordV z m < 0 then z else m) ys := rfl
    rw [e]
    obtain ⟨h1, h2⟩ := min_spec ys (if ordV z m < 0 then z else m)
    have hle := h2 _ (List.mem_cons_self ..)
    by_cases hz : ordV z m < 0
    · rw [if_pos hz] at h1 h2 hle ⊢
      refine ⟨?_, fun y hy => ?_⟩
      · rcases List.mem_cons.1 h1 with h | h
        · rw [h]; simp
        · simp [h]
      · rcases List.mem_cons.1 hy with rfl | hy
        · exact ord_le hle (by omega)
        · rcases List.mem_cons.1 hy with rfl | hy
          · exact hle
          · exact h2 y (by simp [hy])
    · rw [if_neg hz] at h1 h2 hle ⊢
      have hmz : ordV m z ≤ 0 := by have := ord_anti m z; omega
      refine ⟨?_, fun y hy => ?_⟩
      · rcases List.mem_cons.1 h1 with h | h
        · rw [h]; simp
        · simp [h]
      · rcases List.mem_cons.1 hy with rfl | hy
        · exact hle
        · rcases List.mem_cons.1 hy with rfl | hy
          · exact ord_le hle hmz
          · exact h2 y (by simp [hy])
theorem bl_mono {a b : Nat} (h : a ≤ b) : bl a ≤ bl b := bl_le (Nat.lt_of_le_of_lt h (bl_lt b))

theorem strict_all {W : List Val} (h : strictB W = true) : ∀ (i j : Nat) (x y : Val), i < j → W[i]? = some x → W[j]? = some y → ordV x y < 0 := by
  have h1 : ∀ (i : Nat) (x y : Val), W[i]? = some x → W[i + 1]? = some y → ordV x y < 0 := by
    intro i x y hx hy
    unfold strictB at h
    rw [List.all_eq_true] at h
    obtain ⟨hl, _⟩ := List.getElem?_eq_some_iff.1 hy
    have := h i (by rw [List.mem_range]; omega)
    simp only [List.getD_eq_getElem?_getD, hx, hy, Option.getD_some, decide_eq_true_eq] at this
    exact this
  intro i j x y hij hx
  obtain ⟨d, rfl⟩ : ∃ d, j = i + 1 + d := ⟨j - i - 1, by omega⟩
  clear hij
  induction d generalizing y with
  | zero => intro hy; exact h1 i x y hx hy
  | succ d ih =>
    intro hy
    obtain ⟨hl, _⟩ := List.getElem?_eq_some_iff.1 hy
    have hz : W[i + 1 + d]? = some (W[i + 1 + d]'(by omega)) := List.getElem?_eq_getElem (by omega)
    have a := ih _ hz
    have b := h1 (i + 1 + d) _ _ hz hy
    have c := ord_le (Int.le_of_lt a) (Int.le_of_lt b)
    rcases Int.lt_or_eq_of_le c with c | c
    · exact c
    · exfalso
      have e := ord_anti x y
      have f := ord_le (x := y) (y := x) (z := W[i + 1 + d]'(by omega)) (by omega) (Int.le_of_lt a)
      have g := ord_anti y (W[i + 1 + d]'(by omega))
      omega
theorem strict_pos {W : List Val} (h : strictB W = true) {k : Nat} {x : Val} (hx : W[k]? = some x) : posN W x = k := by
  obtain ⟨hl, _⟩ := List.getElem?_eq_some_iff.1 hx
  refine posN_eq (Nat.le_of_lt hl) (fun a y ha hy => strict_all h a k y x ha hy hx) (fun a y ha hy => ?_)
  rcases Nat.lt_or_eq_of_le ha with ha | ha
  · have := strict_all h k a x y ha hx hy
    have e := ord_anti x y
    omega
  · subst ha
    rw [hx] at hy; injection hy with hy; subst hy
    rw [ord_self]; omega
theorem bl_words {W : List Val} {k : Nat} (h : k < W.length) : k < 2 ^ bl (W.length - 1) := Nat.lt_of_le_of_lt (by omega) (bl_lt _)
theorem wordsD_back {kind : Int} {xs W : List Val} (hs : strictB W = true) (hmem : ∀ x, x ∈ xs ↔ x ∈ W) (hf : ∀ x ∈ xs, Fits kind x) (hl : W.length ≤ 4096) (r : List UInt8) :
    wordsD kind xs.length (en (wordsB W xs) ++ r) = some (xs, r) := by
  have hpos : ∀ x ∈ xs, W.getD (posN W x) .null = x := by
    intro x hx
    obtain ⟨k, hk, e⟩ := List.getElem_of_mem ((hmem x).1 hx)
    have := strict_pos hs (k := k) (x := x) (by rw [List.getElem?_eq_getElem hk, e])
    rw [this, List.getD_eq_getElem?_getD, List.getElem?_eq_getElem hk, e]; rfl
  obtain ⟨t, ht, hn⟩ := bitsD_back (bl (W.length - 1)) (xs.map (posN W)) (by
    intro n hn
    obtain ⟨x, hx, rfl⟩ := List.mem_map.1 hn
    exact bl_words (posN_lt ((hmem x).1 hx))) r
  rw [List.length_map] at ht hn
  unfold wordsD wordsB
  rw [en_append, en_append, List.append_assoc, List.append_assoc, numD_app W.length 2 _ (by have : (256:Nat)^2 = 65536 := by decide
                                                                                            omega)]
  simp only [Option.bind_some]
  rw [plainsD_snoc kind W _ (fun x hx => hf x ((hmem x).2 hx))]
  simp only [Option.bind_some]
  rw [if_pos hs, ht]
  simp only [Option.bind_some, hn]
  refine (if_pos ⟨?_, ?_⟩).trans ?_
  · congr 2
    rw [List.map_map]
    conv => rhs; rw [← List.map_id xs]
    exact List.map_congr_left fun x hx => hpos x hx
  · intro k hk
    obtain ⟨x, hx, rfl⟩ := List.mem_map.1 hk
    exact posN_lt ((hmem x).1 hx)
  · intro j hj
    rw [List.mem_map]
    exact ⟨W[j], (hmem _).2 (List.getElem_mem hj), strict_pos hs (List.getElem?_eq_getElem hj)⟩
theorem foldl_max (l : List Nat) : ∀ m, m ≤ l.foldl max m ∧ (∀ k ∈ l, k ≤ l.foldl max m) ∧ (l.foldl max m = m ∨ l.foldl max m ∈ l) := by
  induction l with
  | nil => intro m; exact ⟨Nat.le_refl _, by simp, .inl rfl⟩
  | cons x l ih =>
    intro m
    obtain ⟨a, b, c⟩ := ih (max m x)
    rw [List.foldl_cons]
    refine ⟨by omega, ?_, ?_⟩
    · intro k hk
      rcases List.mem_cons.1 hk with rfl | hk
      · omega
      · exact b k hk
    · rcases c with c | c
      · rcases Nat.le_total m x with h | h
        · right; rw [c, Nat.max_eq_right h]; simp
        · left; rw [c, Nat.max_eq_left h]
      · right; exact List.mem_cons_of_mem _ c
theorem foldl_wid (least : Int) : ∀ (xs : List Val) (m M : Nat), m = bl M → xs.foldl (fun m x => max m (bl (offN least x))) m = bl ((xs.map (offN least)).foldl max M)
  | [], m, M, h => h
  | x :: xs, m, M, h => by
    rw [List.foldl_cons, List.map_cons, List.foldl_cons]
    refine foldl_wid least xs _ _ ?_
    rcases Nat.le_total M (offN least x) with g | g
    · rw [Nat.max_eq_right g, h, Nat.max_eq_right (bl_mono g)]
    · rw [Nat.max_eq_left g, h, Nat.max_eq_left (bl_mono g)]
theorem widL_fold (least : Int) (xs : List Val) : widL least xs = bl ((xs.map (offN least)).foldl max 0) := foldl_wid least xs 0 0 rfl
theorem sint_off {least n : Int} (h1 : -9223372036854775808 ≤ least) (h2 : least ≤ n) (h3 : n ≤ 9223372036854775807) : sint ((least % 18446744073709551616).toNat + ((n - least) % 18446744073709551616).toNat) = n := by
  unfold sint wrap64; omega
theorem sint_self {least : Int} (h1 : -9223372036854775808 ≤ least) (h3 : least ≤ 9223372036854775807) : sint (least % 18446744073709551616).toNat = least := by
  unfold sint wrap64; omega
theorem offsD_back {xs : List Val} (hf : ∀ x ∈ xs, Fits 1 x) (hlen : xs.length ≤ 4096) (r : List UInt8) : offsetsD xs.length (en (offsB (leastI xs) xs) ++ r) = some (xs, r) := by
  have hnum : ∀ x ∈ xs, -9223372036854775808 ≤ x.n ∧ x.n ≤ 9223372036854775807 ∧ x = .num x.n := by
    intro x hx
    rcases hf x hx with ⟨_, n, h1, h2, rfl⟩ | ⟨h, _⟩
    · exact ⟨h1, h2, rfl⟩
    · cases h
  have hle : -9223372036854775808 ≤ leastI xs ∧ leastI xs ≤ 9223372036854775807 ∧ (∀ x ∈ xs, leastI xs ≤ x.n) ∧ (xs ≠ [] → ∃ x ∈ xs, x.n = leastI xs) := by
    cases xs with
    | nil => simp [leastI]
    | cons x ys =>
      obtain ⟨hm, hle⟩ := min_spec ys x
      have h0 := hnum _ hm
      refine ⟨h0.1, h0.2.1, fun y hy => ?_, fun _ => ⟨_, hm, rfl⟩⟩
      have h3 := hle y hy
      rw [h0.2.2, (hnum y hy).2.2, ord_numle] at h3
      exact h3
  obtain ⟨l1, l2, l3, l4⟩ := hle
  have l5 : xs = [] → leastI xs = 0 := by intro h; subst h; rfl
  generalize leastI xs = least at *
  obtain ⟨t, ht, hn⟩ := bitsD_back (widL least xs) (xs.map (offN least)) (by
    intro n hn
    obtain ⟨x, hx, rfl⟩ := List.mem_map.1 hn
    exact widL_ge hx) r
  rw [List.length_map] at ht hn
  have hw := widL_le least xs
  have eU : IntKind.u64.wrap least = (((least % 18446744073709551616).toNat : Nat) : Int) := by rw [IntKind.wrap_u64]; omega
  unfold offsetsD offsB
  rw [en_append, en_append, List.append_assoc, List.append_assoc, eU, numD_app _ 8 _ (by have : (256:Nat)^8 = 18446744073709551616 := by decide
                                                                                         omega)]
  simp only [Option.bind_some]
  rw [numD_app (widL least xs) 1 _ (by omega)]
  simp only [Option.bind_some]
  rw [if_pos hw, ht]
  simp only [Option.bind_some, hn]
  refine (if_pos ⟨?_, widL_fold least xs, ?_⟩).trans ?_
  · congr 2
    rw [List.map_map]
    conv => rhs; rw [← List.map_id xs]
    refine List.map_congr_left fun x hx => ?_
    obtain ⟨n1, n2, n3⟩ := hnum x hx
    show Val.num (sint (_ + offN least x)) = x
    unfold offN
    rw [sint_off l1 (l3 x hx) n2]
    exact n3.symm
  · intro k hk
    obtain ⟨x, hx, rfl⟩ := List.mem_map.1 hk
    obtain ⟨n1, n2, n3⟩ := hnum x hx
    unfold offN
    rw [sint_off l1 (l3 x hx) n2, sint_self l1 l2]
    exact l3 x hx
  · by_cases h0 : xs = []
    · subst h0
      simp only [List.length_nil, if_true]
      rw [l5 rfl]; rfl
    · rw [if_neg (by simpa using h0)]
      obtain ⟨x, hx, e⟩ := l4 h0
      rw [List.mem_map]
      refine ⟨x, hx, ?_⟩
      unfold offN
      rw [e]; simp
theorem nullsD_back (xs : List Val) (r : List UInt8) : nullsD xs.length (en (nullsL xs) ++ r) = some (xs.map nullB, r) := by
  unfold nullsL
  by_cases h : xs.any nullB = true
  · rw [if_pos h]
    have hm : ∀ n ∈ marksN xs, n < 2 ^ 1 := by
      intro n hn
      obtain ⟨x, _, rfl⟩ := List.mem_map.1 hn
      show (if nullB x = true then 1 else 0) < 2 ^ 1
      split <;> decide
    obtain ⟨t, ht, hn⟩ := bitsD_back 1 (marksN xs) hm r
    have hl : (marksN xs).length = xs.length := List.length_map ..
    rw [hl] at ht hn
    unfold nullsD
    have e1 : (1 : Int) = ((1 : Nat) : Int) := rfl
    rw [en_append, List.append_assoc, e1, numD_app 1 1 _ (by decide)]
    simp only [Option.bind_some]
    rw [if_neg (by decide), if_pos trivial, ht]
    simp only [Option.bind_some, hn]
    have e2 : (marksN xs).map (· == 1) = xs.map nullB := by
      unfold marksN
      rw [List.map_map]
      refine List.map_congr_left fun x _ => ?_
      show ((if nullB x = true then 1 else 0) == 1) = nullB x
      cases nullB x <;> rfl
    have e3 : nlOfT t xs.length = xs.map nullB := by unfold nlOfT; rw [hn, e2]
    rw [e3, if_pos (by simpa [List.any_map] using h)]
  · rw [if_neg h]
    unfold nullsD
    have e1 : (0 : Int) = ((0 : Nat) : Int) := rfl
    rw [e1, numD_app 0 1 _ (by decide)]
    simp only [Option.bind_some]
    rw [if_pos trivial]
    congr 2
    apply List.ext_getElem
    · simp
    · intro i h1 h2
      simp only [List.getElem_replicate, List.getElem_map]
      simp only [List.any_eq_true, not_exists, not_and, Bool.not_eq_true] at h
      exact (h _ (List.getElem_mem (by simpa using h2))).symm
theorem stand_count (xs : List Val) : (xs.map nullB).count false = (standL xs).length := by
  induction xs with
  | nil => rfl
  | cons x xs ih =>
    unfold standL at ih ⊢
    rw [List.map_cons, List.count_cons, ih, List.filter_cons]
    unfold nullB
    by_cases h : x.k = 0 <;> simp [h]
theorem spread_back : ∀ (xs : List Val), (∀ x ∈ xs, x.k = 0 → x = .null) → spreadL (xs.map nullB) (standL xs) = xs
  | [], _ => rfl
  | x :: xs, h => by
    have ih := spread_back xs (fun y hy => h y (List.mem_cons_of_mem _ hy))
    unfold standL at ih ⊢
    rw [List.map_cons, List.filter_cons]
    unfold nullB at ih ⊢
    by_cases hk : x.k = 0
    · have e := h x (by simp) hk
      simp [hk, spreadL, ih, ← e]
    · have e : (x.k == 0) = false := by simpa using hk
      simp [e, hk, spreadL, ih]
def runsG (kind : Int) (count : Nat) : Nat → List Val × List UInt8 → Option (List Val × List UInt8)
  | 0, p => some p
  | n + 1, p => (runD kind count p.1 p.2).bind (runsG kind count n)
theorem runsG_snoc (kind : Int) (count : Nat) : ∀ (n : Nat) (p : List Val × List UInt8), runsG kind count (n + 1) p = (runsG kind count n p).bind fun q => runD kind count q.1 q.2
  | 0, p => by
    cases h : runD kind count p.1 p.2 <;> simp [runsG, h]
  | n + 1, p => by
    rw [runsG]
    conv => rhs; rw [runsG]
    rw [Option.bind_assoc]
    congr 1
    funext q
    exact runsG_snoc kind count n q
theorem runsD_G (kind : Int) (count : Nat) : ∀ (n : Nat) (l : List UInt8), runsD kind count n l = runsG kind count n ([], l)
  | 0, _ => rfl
  | n + 1, l => by rw [runsG_snoc, runsD, runsD_G kind count n l]
theorem ahead_take (x : Val) (xs : List Val) : (x :: xs).take (aheadN (x :: xs)) = List.replicate (aheadN (x :: xs)) x := by
  unfold aheadN
  rw [List.eq_replicate_iff]
  refine ⟨by rw [List.length_take, Nat.min_eq_left (List.takeWhile_prefix _).length_le], ?_⟩
  intro y hy
  have e : (x :: xs).take ((x :: xs).takeWhile fun y => sameB y ((x :: xs).headD Val.null)).length = (x :: xs).takeWhile fun y => sameB y ((x :: xs).headD Val.null) := by
    obtain ⟨r, hr⟩ := List.takeWhile_prefix (l := x :: xs) (fun y => sameB y ((x :: xs).headD Val.null))
    conv => lhs; arg 2; rw [← hr]
    rw [List.take_left]
  rw [e] at hy
  have := List.all_takeWhile (l := x :: xs) (p := fun y => sameB y ((x :: xs).headD Val.null))
  rw [List.all_eq_true] at this
  exact sameB_eq.1 (this y hy)
theorem ahead_drop (x : Val) (xs : List Val) {z : Val} (h : ((x :: xs).drop (aheadN (x :: xs))).head? = some z) : sameB x z = false := by
  unfold aheadN at h
  have hh := List.head?_dropWhile_not (fun y => sameB y ((x :: xs).headD Val.null)) (x :: xs)
  have e : (x :: xs).drop ((x :: xs).takeWhile fun y => sameB y ((x :: xs).headD Val.null)).length = (x :: xs).dropWhile fun y => sameB y ((x :: xs).headD Val.null) := by
    have := List.takeWhile_append_dropWhile (p := fun y => sameB y ((x :: xs).headD Val.null)) (l := x :: xs)
    conv => lhs; arg 2; rw [← this]
    rw [List.drop_left]
  rw [e] at h
  rw [h] at hh
  cases hs : sameB x z
  · rfl
  · have e := sameB_eq.1 hs
    subst e
    have : sameB x x = true := sameB_eq.2 rfl
    simp [this] at hh
theorem runsG_back {kind : Int} {count : Nat} (hc : count ≤ 4096) : ∀ (f : Nat) (vs xs : List Val) (r : List UInt8), xs.length ≤ f → vs.length + xs.length = count → (∀ x ∈ xs, Fits kind x) →
    (∀ y z, vs.getLast? = some y → xs.head? = some z → sameB y z = false) → runsG kind count (runsN f xs) (vs, en (runsB f xs) ++ r) = some (vs ++ xs, r)
  | 0, vs, [], r, _, _, _, _ => by simp [runsN, runsG, runsB, en]
  | 0, vs, x :: xs, r, h, _, _, _ => by simp at h
  | f + 1, vs, [], r, _, _, _, _ => by simp [runsN, runsG, runsB, en]
  | f + 1, vs, x :: xs, r, hf, hl, hx, hlast => by
    have hp := ahead_pos (x := x) (xs := xs)
    have hle := ahead_le (x :: xs)
    have ht := ahead_take x xs
    have hd := fun z h => ahead_drop x xs (z := z) h
    have hsplit := List.take_append_drop (aheadN (x :: xs)) (x :: xs)
    rw [ht] at hsplit
    have hdl : ((x :: xs).drop (aheadN (x :: xs))).length = (x :: xs).length - aheadN (x :: xs) := List.length_drop
    unfold runsN runsB
    generalize hR : (x :: xs).drop (aheadN (x :: xs)) = R at *
    generalize hA : aheadN (x :: xs) = A at *
    rw [Nat.add_comm 1, runsG, en_append, en_append, List.append_assoc, List.append_assoc]
    have hrun : runD kind count vs (en (beL (A : Int) 4 4) ++ (en (plainL x) ++ (en (runsB f R) ++ r))) = some (vs ++ List.replicate A x, en (runsB f R) ++ r) := by
      unfold runD
      rw [numD_app A 4 _ (by have : (256:Nat)^4 = 4294967296 := by decide
                             omega)]
      simp only [Option.bind_some]
      rw [plainD_back (hx x (by simp))]
      simp only [Option.bind_some]
      rw [if_pos ⟨hp, by omega, fun y hy => hlast y x hy rfl⟩]
    rw [hrun, Option.bind_some]
    have ih := runsG_back hc f (vs ++ List.replicate A x) R r (by simp at hf hdl; omega) (by rw [List.length_append, List.length_replicate]; omega)
      (fun y hy => hx y (by rw [← hsplit]; exact List.mem_append_right _ hy)) (fun y z hy hz => by
        have : y = x := by
          rw [List.getLast?_append, List.getLast?_replicate, if_neg (by omega)] at hy
          simpa using hy.symm
        rw [this]; exact hd z hz)
    rw [ih, List.append_assoc, hsplit]
theorem runsN_le : ∀ (f : Nat) (xs : List Val), runsN f xs ≤ f
  | 0, _ => by simp [runsN]
  | f + 1, [] => by simp [runsN]
  | f + 1, x :: xs => by rw [runsN]; have := runsN_le f ((x :: xs).drop (aheadN (x :: xs))); omega
theorem valuesD_back {sch : Nat} {kind : Int} {ys : List Val} {b : List Int} (hb : BodyB sch ys b) (hf : ∀ x ∈ ys, Fits kind x) (hl : ys.length ≤ 4096) (h4 : sch = 4 → kind = 1)
    (hst : ∀ W, WordsOf ys W → strictB W = true) : valuesD sch kind ys.length (en b) = some (ys, []) := by
  have e0 : ∀ b : List Int, en b = en b ++ [] := fun b => (List.append_nil _).symm
  rcases hb with ⟨rfl, rfl⟩ | ⟨rfl, rfl⟩ | ⟨rfl, W, hW, rfl⟩ | ⟨rfl, rfl⟩
  · unfold valuesD
    rw [if_pos rfl, e0, plainsD_snoc kind ys _ hf]
  · unfold valuesD
    have := runsN_le ys.length ys
    rw [if_neg (by decide), if_pos rfl, e0, en_append, List.append_assoc, numD_app _ 4 _ (by have : (256:Nat)^4 = 4294967296 := by decide
                                                                                             omega)]
    simp only [Option.bind_some]
    rw [runsD_G, runsG_back hl ys.length [] ys [] (Nat.le_refl _) (by simp) hf (by simp)]
    simp
  · unfold valuesD
    rw [if_neg (by decide), if_neg (by decide), if_pos rfl, e0, wordsD_back (hst W hW) (fun x => ⟨fun h => hW.mem h, fun h => hW.sub h⟩) hf (by have := hW.len; omega)]
  · unfold valuesD
    have := h4 rfl
    subst this
    rw [if_neg (by decide), if_neg (by decide), if_neg (by decide), if_pos ⟨rfl, rfl⟩, e0, offsD_back hf hl]
theorem columnD_back {sch kd : Nat} {xs : List Val} {b : List Int} (hsch : sch ≤ 4) (hk : kd = 1 ∨ kd = 2) (hl : xs.length ≤ 4096) (hb : BodyB sch (standL xs) b) (hf : ∀ x ∈ standL xs, Fits (kd : Int) x) (h0 : ∀ x ∈ xs, x.k = 0 → x = .null)
    (h4 : sch = 4 → kd = 1) (hst : ∀ W, WordsOf (standL xs) W → strictB W = true) : columnD (en (headB sch kd xs ++ b)) = some (sch, (kd : Int), xs) := by
  have hs : (standL xs).length ≤ xs.length := List.length_filter_le _ _
  unfold columnD headB
  rw [en_append, en_append, en_append, en_append, List.append_assoc, List.append_assoc, List.append_assoc, numD_app sch 1 _ (by omega)]
  simp only [Option.bind_some]
  rw [numD_app kd 1 _ (by omega)]
  simp only [Option.bind_some]
  rw [if_pos hk, numD_app xs.length 4 _ (by have : (256:Nat)^4 = 4294967296 := by decide
                                            omega)]
  simp only [Option.bind_some]
  rw [if_pos hl, nullsD_back]
  simp only [Option.bind_some]
  rw [stand_count, valuesD_back hb hf (by omega) (fun h => by rw [h4 h]; rfl) hst]
  simp only [Option.bind_some, if_true]
  rw [spread_back xs h0]
/-- Each below the next. -/
def SA (L : List Val) : Prop := ∀ (i : Nat) (x y : Val), L[i]? = some x → L[i + 1]? = some y → ordV x y < 0
theorem SA.snoc {L : List Val} {x : Val} (h : SA L) (hl : ∀ y, L.getLast? = some y → ordV y x < 0) : SA (L ++ [x]) := by
  intro i a b ha hb
  by_cases h1 : i + 1 < L.length
  · rw [List.getElem?_append_left (by omega)] at ha
    rw [List.getElem?_append_left h1] at hb
    exact h i a b ha hb
  · have h2 : i + 1 = L.length := by
      have := (List.getElem?_eq_some_iff.1 hb).1
      simp at this; omega
    rw [List.getElem?_append_right (by omega)] at hb
    rw [List.getElem?_append_left (by omega)] at ha
    have e : b = x := by rw [show i + 1 - L.length = 0 by omega] at hb; simpa using hb.symm
    rw [e]
    refine hl a ?_
    rw [List.getLast?_eq_getElem?, show L.length - 1 = i by omega]
    exact ha
theorem comp_strict {xs : List Val} (hr : Rises xs) (hc : ∀ x ∈ xs, cleanV x = x) : ∀ j y, xs[j]? = some y → SA (compT xs j) ∧ (compT xs j).getLast? = some y
  | 0, y, hy => by
    cases xs with
    | nil => cases hy
    | cons a xs =>
      injection hy with hy
      subst hy
      have e : compT (a :: xs) 0 = [a] := by simp [compT]
      rw [e]
      exact ⟨fun i x y h1 h2 => by simp at h2, rfl⟩
  | j + 1, x, hx => by
    have hl := (List.getElem?_eq_some_iff.1 hx).1
    obtain ⟨y, hy⟩ : ∃ y, xs[j]? = some y := ⟨_, List.getElem?_eq_getElem (by omega)⟩
    obtain ⟨h1, h2⟩ := comp_strict hr hc j y hy
    rw [comp_next hx hy]
    cases hs : sameB x y
    · rw [if_neg (by simp)]
      refine ⟨h1.snoc fun z hz => ?_, by simp⟩
      rw [h2] at hz
      injection hz with hz
      subst hz
      have h3 := hr.at (a := j) (b := j + 1) (by omega) hy hx
      rcases Int.lt_or_eq_of_le h3 with h4 | h4
      · exact h4
      · have h5 := ord_eq h4
        rw [hc y (List.mem_of_getElem? hy), hc x (List.mem_of_getElem? hx)] at h5
        rw [sameB_eq.2 h5.symm] at hs
        cases hs
    · rw [if_pos rfl, List.append_nil]
      rw [sameB_eq.1 hs]
      exact ⟨h1, h2⟩
theorem words_strict {ys W : List Val} (h : WordsOf ys W) (hc : ∀ y ∈ ys, cleanV y = y) : strictB W = true := by
  obtain ⟨S, hp, hr, rfl⟩ := h
  have hcS : ∀ x ∈ S, cleanV x = x := fun x hx => hc x (hp.mem_iff.1 hx)
  have hSA : SA (compL S) := by
    by_cases h0 : S.length = 0
    · have : S = [] := List.eq_nil_of_length_eq_zero h0
      subst this
      intro i x y h1 _
      simp [compL, compT] at h1
    · exact (comp_strict hr hcS (S.length - 1) _ (List.getElem?_eq_getElem (by omega))).1
  unfold strictB
  rw [List.all_eq_true]
  intro i hi
  rw [List.mem_range] at hi
  have h1 : (compL S)[i]? = some ((compL S)[i]'(by omega)) := List.getElem?_eq_getElem (by omega)
  have h2 : (compL S)[i + 1]? = some ((compL S)[i + 1]'(by omega)) := List.getElem?_eq_getElem (by omega)
  simp only [List.getD_eq_getElem?_getD, h1, h2, Option.getD_some, decide_eq_true_eq]
  exact hSA i _ _ h1 h2
theorem toB_list (zs : List Int) : (toB zs).data.toList = en zs := by rw [toB_eq]; rfl
/-- What is written is read. -/
theorem packed_col {X : Vc} (hr : ∀ n ∈ X.ns, -9223372036854775808 ≤ n ∧ n ≤ 9223372036854775807) {n : Nat} (hn : n = 1 ∨ n = 2 ∨ n = 3 ∨ n = 4) {s : ByteArray} (h : PW X (n : Int) s 0) : columnD s.data.toList = some (n, X.k, valsV X) := by
  rcases h with ⟨_, _, h⟩ | ⟨_, _, _, h⟩ | ⟨hb, hl, _, b, hbody, rfl⟩
  · cases h
  · cases h
  have hg : goodB X = true := by
    unfold badW at hb
    cases hgg : goodB X
    · rw [hgg] at hb; simp at hb
    · rfl
  have h4 : n = 4 → X.k = 1 := by
    intro h4
    subst h4
    unfold badW at hb
    rcases good_kind hg with h | h
    · exact h
    · rw [h, hg] at hb; simp at hb
  have hk := good_kind hg
  have hkn : X.k.toNat = 1 ∨ X.k.toNat = 2 := by omega
  have hke : ((X.k.toNat : Nat) : Int) = X.k := by omega
  rw [Int.toNat_natCast] at hbody ⊢
  have hvl : (valsV X).length ≤ 4096 := Nat.le_trans (vals_le X) hl
  have hfit : ∀ x ∈ standL (valsV X), Fits ((X.k.toNat : Nat) : Int) x := by
    intro x hx
    obtain ⟨h1, h2⟩ := List.mem_filter.1 hx
    rw [hke]
    rcases vals_kind hg h1 with rfl | ⟨hk, m, hm, rfl⟩ | ⟨hk, t, ht, rfl⟩
    · simp [Val.null] at h2
    · refine .inl ⟨hk, m, ?_, ?_, rfl⟩
      · rcases hm with hm | rfl
        · exact (hr m hm).1
        · decide
      · rcases hm with hm | rfl
        · exact (hr m hm).2
        · decide
    · exact .inr ⟨hk, t, ht, rfl⟩
  rw [toB_list, columnD_back (by omega) hkn hvl hbody hfit ?_ ?_ ?_, hke]
  · intro x hx h0
    rcases vals_kind hg hx with rfl | ⟨hk, m, hm, rfl⟩ | ⟨hk, t, ht, rfl⟩
    · rfl
    · simp [Val.num] at h0
    · simp [Val.str] at h0
  · intro h; have := h4 h; omega
  · intro W hW
    exact words_strict hW fun y hy => vals_clean hg (List.mem_filter.1 hy).1
end Go.Proofs.YtbdkpkpncmagoaaGreat
set_option linter.unusedSimpArgs false
set_option linter.unusedVariables false
namespace Go.Proofs.YtbdkpkpncmagoaaGreat
open Go.RowKit Go.Sort

def truthV (b : Bool) : Val := .num (if b then 1 else 0)
def ZeroAt (w : World) (b : Nat) : Prop := w.cell? ⟨b, 0, none⟩ = some (.int .i64 0) ∧ w.cell? ⟨b, 1, none⟩ = some (.int .i64 0) ∧ w.cell? ⟨b, 2, none⟩ = some (.string ⟨#[]⟩) ∧ w.frozen? ⟨b, 0, none⟩ = false ∧ w.frozen? ⟨b, 1, none⟩ = false ∧ w.frozen? ⟨b, 2, none⟩ = false
theorem ZeroAt.later {w w1 : World} {b : Nat} (h : ZeroAt w b) (hb : Below w.heap.size w w1) : ZeroAt w1 b := by
  obtain ⟨h0, h1, h2, f0, f1, f2⟩ := h
  obtain ⟨hc, hf⟩ := bcell hb
  have hl : b < w.heap.size := World.block_lt_of_cell? w _ h0
  unfold ZeroAt
  rw [hc _ _ hl, hc _ _ hl, hc _ _ hl, hf _ _ hl, hf _ _ hl, hf _ _ hl]
  exact ⟨h0, h1, h2, f0, f1, f2⟩
abbrev Zero23 : Obj := .cells #[.int .i64 0, .int .i64 0, .string ⟨#[]⟩] 42
def boxes3 (w : World) (a b : Val) : World := (boxes w a b).alloc Zero23
theorem boxes3_size (w : World) (a b : Val) : (boxes3 w a b).heap.size = w.heap.size + 1 + 1 + 1 := by simp [boxes3, boxes_size]
theorem boxes3_drew (w : World) (a b : Val) : Below (boxes3 w a b).heap.size (boxes3 w a b) (boxes3 w a b).drew := (Below.refl _ _).drew
theorem boxes3_facts {w w' : World} {a b : Val} (h : Below (boxes3 w a b).heap.size (boxes3 w a b) w') :
    BoxAt w' w.heap.size a ∧ BoxAt w' (w.heap.size + 1) b ∧ FreeAt w' w.heap.size ∧ FreeAt w' (w.heap.size + 1) ∧ ZeroAt w' (w.heap.size + 1 + 1) ∧ w.heap.size + 1 + 1 < w'.heap.size := by
  have hs := h.size
  rw [boxes3_size] at hs
  obtain ⟨hc, hf⟩ := bcell h
  refine ⟨⟨?_, ?_, ?_⟩, ⟨?_, ?_, ?_⟩, ⟨?_, ?_, ?_⟩, ⟨?_, ?_, ?_⟩, ⟨?_, ?_, ?_, ?_, ?_, ?_⟩, by omega⟩
  all_goals first | (rw [hc _ _ (by rw [boxes3_size]; omega)]; simp [boxes3, boxes, go_sem]; done) | (rw [hf _ _ (by rw [boxes3_size]; omega)]; simp [boxes3, boxes, go_sem]; done)
theorem boxes3_below {w w' : World} {a b : Val} (h : Below (boxes3 w a b).heap.size (boxes3 w a b) w') : Below w.heap.size w w' :=
  ((((Below.refl _ _).alloc (Nat.le_refl _) _).alloc (by simp) _).alloc (by simp; omega) _).trans (h.mono (by rw [boxes3_size]; omega))
def tnullB (x : Val) : Bool := (cleanV x).k == 0
theorem tnullB_eq (x : Val) : tnullB x = (x.k != 1 && x.k != 2) := by
  unfold tnullB cleanV
  rcases Bool.eq_false_or_eq_true (x.k == 1) with h1 | h1 <;> rcases Bool.eq_false_or_eq_true (x.k == 2) with h2 | h2 <;> simp [h1, h2, bne, Val.num, Val.str, Val.null]

def testB (op o : Int) : Option Bool :=
  if op == 12 then some (o == 0) else if op == 13 then some (o != 0) else if op == 14 then some (decide (o < 0)) else if op == 15 then some (decide (o ≤ 0)) else if op == 16 then some (decide (0 < o)) else if op == 17 then some (decide (0 ≤ o)) else none
def testR (op o : Int) : Val := match testB op o with | some t => truthV t | none => .null
def testV (op : Int) (a b : Val) : Val := if tnullB a || tnullB b then .null else testR op (ordV a b)

theorem testR_some {op o : Int} {t : Bool} (h : testB op o = some t) : testR op o = truthV t := by simp [testR, h]
theorem testR_none {op o : Int} (h : testB op o = none) : testR op o = .null := by simp [testR, h]

end Go.Proofs.YtbdkpkpncmagoaaGreat
set_option linter.unusedSimpArgs false
set_option linter.unusedVariables false
namespace Go.Proofs.YtbdkpkpncmagoaaGreat
open Go.RowKit Go.Sort

/-- A text that is a packed column: what opened answers, wherever. -/
def Opens (s : ByteArray) (sch : Nat) (kind : Int) (xs : List Val) : Prop := ∀ W, Calls Tryz.prog 71 #[.string s] W fun e w' => ∃ a c, e = .returned (.tuple #[.agg #[.int .i64 (sch : Int), .int .i64 kind, .slice a xs.length c], .int .i64 0]) ∧ RowAt w' a xs ∧ Below W.heap.size W w'
theorem opens_of {s : ByteArray} {sch : Nat} {kind : Int} {xs : List Val} (hl : s.size ≤ 140737488355328) (h : columnD s.data.toList = some (sch, kind, xs)) : Opens s sch kind xs := by
  intro W
  have := opened_yes (w := W) (l := s.data.toList) (by rw [Array.length_toList]; exact hl) h
  rw [bs_back] at this
  refine this.mono ?_
  rintro e w' ⟨v, rfl, ho, hb⟩
  obtain ⟨a, c, rfl, _, _, hr⟩ := ownV_slice ho
  exact ⟨a, c, rfl, hr, hb⟩
set_option maxHeartbeats 400000 in
set_option maxRecDepth 100000 in
theorem pread_any {s : ByteArray} {sch : Nat} {kind : Int} {xs : List Val} (h : Opens s sch kind xs) (hl : xs.length ≤ 4096) {X : Vc} (hf : fromV kind xs = (X, 0)) (w : World) : Calls Tryz.prog 63 #[.string s] w fun e w' => ∃ p, e = .returned (.tuple #[vecV X p, .int .i64 0]) ∧ VecAt w' X p ∧ Own3 w' w.heap.size X p ∧ Below w.heap.size w w' := by
  have H := hide h
  have HF : Hid (∀ W a c, RowAt W a xs → Calls Tryz.prog 26 #[.int .i64 kind, .slice a xs.length c] W fun e w' => ∃ p, e = .returned (.tuple #[vecV X p, .int .i64 0]) ∧ VecAt w' X p ∧ Own3 w' W.heap.size X p ∧ Below W.heap.size W w') := fun W a c ha => by
    have := from_any a c kind xs W (by omega) ha
    rw [hf] at this
    exact this
  clear h hf
  go_enter Tryz.func63, Tryz.ntmps63
  go_wp2_with (first
    | (go_at_call 71; refine (unhide H _).mono ?_; rintro e w1 ⟨a, c, rfl, hr1, hb1⟩)
    | (go_at_call 26; refine (unhide HF _ _ _ (hr1.later (below_alloc (Below.refl _ _) _))).mono ?_; rintro e w2 ⟨p, rfl, hv2, hfr2, hb2⟩; rw [vecV_open]; obtain ⟨r0, r1, r2, r3, s0, s1, s2, s3⟩ := box_facts (rowIs_later (World.rowIs.alloc (rowIs_later (box4_alloc w (.int .i64 0) (.slice none 0 0) (.slice none 0 0) (.slice none 0 0)) hb1) _) hb2))
    | fail)
  have hB1 := below_one hb1
  have hB2 := below_step (below_alloc hB1 _) hb2
  have hz1 : w.heap.size + 1 ≤ w1.heap.size := by have := hb1.size; simpa using this
  have hfr2' : Own3 w2 (w.heap.size + 1) X p := hfr2.less (by simp; omega)
  have hfr3 : Fresh (w.heap.size + 1) p := hfr2'.fresh
  refine bodyPost_ret (v := .tuple #[vecV X p, .int .i64 0]) ?_ rfl ⟨p, rfl, ?_, (hfr2'.setO4 (by omega) _ _ _ _).less (by omega), ?_⟩
  · simp [results, Tryz.results63, go_sem, vecV, r0, r1, r2, r3]
  · exact ⟨(((hv2.1.setO hfr3.1 _ (by simp) _).setO hfr3.1 _ (by simp) _).setO hfr3.1 _ (by simp) _).setO hfr3.1 _ (by simp) _, (((hv2.2.1.setO hfr3.2.1 _ (by simp) _).setO hfr3.2.1 _ (by simp) _).setO hfr3.2.1 _ (by simp) _).setO hfr3.2.1 _ (by simp) _, (((hv2.2.2.setO hfr3.2.2 _ (by simp) _).setO hfr3.2.2 _ (by simp) _).setO hfr3.2.2 _ (by simp) _).setO hfr3.2.2 _ (by simp) _⟩
  · exact (((hB2.setCell (p := ⟨w.heap.size, 0, none⟩) (Nat.le_refl _) _).setCell (p := ⟨w.heap.size, 1, none⟩) (Nat.le_refl _) _).setCell (p := ⟨w.heap.size, 2, none⟩) (Nat.le_refl _) _).setCell (p := ⟨w.heap.size, 3, none⟩) (Nat.le_refl _) _
end Go.Proofs.YtbdkpkpncmagoaaGreat
set_option linter.unusedSimpArgs false
set_option linter.unusedVariables false
namespace Go.Proofs.YtbdkpkpncmagoaaGreat
open Go.RowKit Go.Sort

/-- The places below k at which f holds. -/
def fT (f : Nat → Bool) (k : Nat) : List Nat := (List.range k).filter f
theorem fT_next (f : Nat → Bool) (k : Nat) : fT f (k + 1) = fT f k ++ (if f k then [k] else []) := by
  unfold fT
  rw [List.range_succ, List.filter_append]
  cases h : f k <;> simp [h]
theorem fT_pre (f : Nat → Bool) {k n : Nat} (h : k ≤ n) : ∃ r, fT f n = fT f k ++ r := by
  obtain ⟨j, rfl⟩ : ∃ j, n = k + j := ⟨n - k, by omega⟩
  clear h
  induction j with
  | zero => exact ⟨[], by simp⟩
  | succ j ih =>
    obtain ⟨r, hr⟩ := ih
    exact ⟨r ++ (if f (k + j) then [k + j] else []), by rw [← Nat.add_assoc, fT_next, hr, List.append_assoc]⟩
theorem fT_at {f : Nat → Bool} {k n : Nat} (h : k < n) (hf : f k = true) : (fT f n)[(fT f k).length]? = some k := by
  obtain ⟨r, hr⟩ := fT_pre f (k := k + 1) h
  rw [hr, fT_next, if_pos hf, List.append_assoc]
  simp
theorem fT_len (f : Nat → Bool) (k : Nat) : (fT f k).length ≤ k := by
  unfold fT
  exact Nat.le_trans (List.length_filter_le _ _) (by simp)
/-- Does a value compare so? -/
def hitB (op : Int) (y x : Val) : Bool := trueB (testV op x y)
def hitF (op : Int) (y : Val) (xs : List Val) (k : Nat) : Bool := hitB op y (xs.getD k .null)
theorem hitF_at {op : Int} {y x : Val} {xs : List Val} {k : Nat} (h : xs[k]? = some x) : hitF op y xs k = hitB op y x := by
  unfold hitF
  rw [List.getD_eq_getElem?_getD, h]; rfl
/-- An own row of numbers. -/
def OwnN (w : World) (base : Nat) (v : Value) (ns : List Nat) : Prop := w.ownsRow base 3 1 v ns.length (ns.map fun n : Nat => Value.int .i64 (n : Int))
theorem Tryz.info3' : (Tryz.prog.info? 3).map (fun i => (i.zero, i.size, i.bytes)) = some (some (.int .i64 0), 1, 8) := by kernel_rfl
theorem ownN_app {w : World} {base : Nat} {v : Value} {ys : List Nat} {m : Nat} (h : w.ownsRow base 3 1 v (ys.length + 1) ((ys.map fun n : Nat => Value.int .i64 (n : Int)) ++ [.int .i64 (m : Int)])) : OwnN w base v (ys ++ [m]) := by
  unfold OwnN
  rw [List.length_append, List.map_append]
  exact h
set_option maxHeartbeats 400000 in
set_option maxRecDepth 100000 in
theorem samerow_same (a b : Option Addr) (c d : Nat) (xs : List Val) (w : World) (hl : xs.length ≤ 1048576) (ha : RowAt w a xs) (hb : RowAt w b xs) :
    Calls Tryz.prog 19 #[.slice a xs.length c, .slice b xs.length d] w fun e w' => e = .returned (.bool true) ∧ Below w.heap.size w w' := by
  have HA := hide ha
  have HB := hide hb
  clear ha hb
  go_enter Tryz.func19, Tryz.ntmps19
  go_wp2_with fail
  go_loopw [13] (fun i wr => ∃ k : Nat, k ≤ xs.length ∧ i = .int .i64 (k : Int) ∧ Below w.heap.size w wr) (fun i _ => xs.length - (intOf i).toNat)
  case atStart => exact ⟨0, Nat.zero_le _, rfl, Below.refl _ _⟩
  case round =>
    obtain ⟨k, hk, rfl, hb⟩ := hrel
    by_cases hlt : k < xs.length
    · have h9 : (k : Int) < (xs.length : Int) := by omega
      obtain ⟨x, hx⟩ : ∃ x, xs[k]? = some x := ⟨_, List.getElem?_eq_getElem hlt⟩
      obtain ⟨vb, vo, rfl, c0, c1, c2⟩ := ((unhide HA).later hb).lo hx
      obtain ⟨ub, uo, rfl, d0, d1, d2⟩ := ((unhide HB).later hb).lo hx
      have HB2 := hide hb
      clear hx hb
      go_wp2_with fail
      go_quiet (fail)
      go_wp2
      go_roundw
      case rel => exact ⟨k + 1, by omega, by go_num, below_drewN (unhide HB2) _⟩
      case measure => simp [intOf]; omega
    · have h9 : ¬ (k : Int) < (xs.length : Int) := by omega
      have HB2 := hide hb
      clear hb
      go_wp2
      go_ret
      exact ⟨rfl, unhide HB2⟩
end Go.Proofs.YtbdkpkpncmagoaaGreat
set_option linter.unusedSimpArgs false
set_option linter.unusedVariables false
namespace Go.Proofs.YtbdkpkpncmagoaaGreat
open Go.RowKit Go.Sort

theorem clean_clean (x : Val) : cleanV (cleanV x) = cleanV x := by
  unfold cleanV
  rcases Bool.eq_false_or_eq_true (x.k == 1) with h1 | h1 <;> rcases Bool.eq_false_or_eq_true (x.k == 2) with h2 | h2 <;> simp [h1, h2, Val.num, Val.str, Val.null]
theorem clean_cases (x : Val) : cleanV x = .null ∨ cleanV x = .num x.n ∨ cleanV x = .str x.s := by
  unfold cleanV
  split
  · exact .inr (.inl rfl)
  · split
    · exact .inr (.inr rfl)
    · exact .inl rfl
theorem clean_shape {y : Val} (h : cleanV y = y) : y = .null ∨ (∃ n, y = .num n) ∨ ∃ s, y = .str s := by
  rcases clean_cases y with e | e | e
  · exact .inl (h.symm.trans e)
  · exact .inr (.inl ⟨_, h.symm.trans e⟩)
  · exact .inr (.inr ⟨_, h.symm.trans e⟩)
theorem large_le {s : ByteArray} : largeB s = false ↔ s.size ≤ 1000 := by
  unfold largeB
  rw [decide_eq_false_iff_not]
  omega
theorem zip_map2 {α β γ : Type} (f : α → β) (g : α → γ) (l : List α) : (l.map f).zip (l.map g) = l.map fun x => (f x, g x) := by
  induction l with
  | nil => rfl
  | cons a l ih => simp [ih]
theorem laid_good {kind : Int} {ys : List Val} (hk : kind = 1 ∨ kind = 2) (hc : ∀ y ∈ ys, cleanV y = y) (hb : ∀ y ∈ ys, badK kind y = false) (hl : ∀ y ∈ ys, largeB y.s = false) : goodB (laidV kind ys) = true := by
  rcases hk with rfl | rfl
  · unfold goodB laidV
    simp only [beq_self_eq_true, if_true, znN, nlOf, zip_map2, List.length_map, Bool.and_eq_true, Bool.not_eq_true', List.length_nil]
    refine ⟨trivial, trivial, ?_⟩
    rw [List.any_eq_false]
    intro p hp
    obtain ⟨y, hy, rfl⟩ := List.mem_map.1 hp
    rcases clean_shape (hc y hy) with rfl | ⟨n, rfl⟩ | ⟨s, rfl⟩ <;> simp [badN, Val.null, Val.num, Val.str]
  · have e1 : ((2 : Int) == 1) = false := rfl
    have e2 : ¬ (2 : Int) = 1 := by decide
    unfold goodB laidV
    simp only [e1, Bool.false_eq_true, beq_self_eq_true, if_true, if_false, e2, znS, nlOf, zip_map2, List.length_map, Bool.and_eq_true, Bool.not_eq_true', List.length_nil]
    refine ⟨⟨trivial, trivial, ?_⟩, ?_⟩
    · rw [List.any_eq_false]
      intro p hp
      obtain ⟨y, hy, rfl⟩ := List.mem_map.1 hp
      rcases clean_shape (hc y hy) with rfl | ⟨n, rfl⟩ | ⟨s, rfl⟩
      · simp [badS, Val.null]
      · simp [badS, Val.num]
      · simp [badS, Val.str]
    · rw [List.any_eq_false]
      intro s hs
      obtain ⟨y, hy, rfl⟩ := List.mem_map.1 hs
      simp [hl y hy]
theorem laid_vals {kind : Int} {ys : List Val} (hk : kind = 1 ∨ kind = 2) (hc : ∀ y ∈ ys, cleanV y = y) (hb : ∀ y ∈ ys, badK kind y = false) (hl : ∀ y ∈ ys, largeB y.s = false) : valsV (laidV kind ys) = ys := by
  have hg := laid_good hk hc hb hl
  apply List.ext_getElem?
  intro i
  by_cases hi : i < ys.length
  · rw [vals_at hg (by simpa [laidV, nlOf] using hi), List.getElem?_eq_getElem hi]
    congr 1
    have hm := List.getElem_mem hi
    have hcl := hc _ hm
    have hbd := hb _ hm
    generalize hy : ys[i] = y at *
    have hgt : ys[i]? = some y := by rw [List.getElem?_eq_getElem hi, hy]
    unfold atV
    rcases hk with rfl | rfl
    · rcases clean_shape hcl with rfl | ⟨n, rfl⟩ | ⟨s, rfl⟩
      · simp [laidV, nlOf, hgt, List.getD_eq_getElem?_getD, Val.null]
      · simp [laidV, nlOf, hgt, List.getD_eq_getElem?_getD, Val.num]
      · simp [badK, Val.str] at hbd
    · rcases clean_shape hcl with rfl | ⟨n, rfl⟩ | ⟨s, rfl⟩
      · simp [laidV, nlOf, hgt, List.getD_eq_getElem?_getD, Val.null]
      · simp [badK, Val.num] at hbd
      · simp [laidV, nlOf, hgt, List.getD_eq_getElem?_getD, Val.str]
  · rw [List.getElem?_eq_none (by rw [vals_len hg]; simp [laidV, nlOf]; omega), List.getElem?_eq_none (by omega)]
/-- What From makes of values that fit. -/
theorem from_ok {kind : Int} {xs : List Val} {X : Vc} (h : fromV kind xs = (X, 0)) : goodB X = true ∧ X.k = kind ∧ valsV X = xs.map cleanV ∧ fromV X.k (valsV X) = (X, 0) ∧ X.nl.length = xs.length ∧ X.ns.length ≤ xs.length ∧ X.ss.length ≤ xs.length ∧ ((∀ x ∈ xs, -9223372036854775808 ≤ x.n ∧ x.n ≤ 9223372036854775807) → ∀ n ∈ X.ns, -9223372036854775808 ≤ n ∧ n ≤ 9223372036854775807) := by
  unfold fromV at h
  split at h
  · injection h with _ h; cases h
  rename_i hk
  split at h
  · injection h with _ h; cases h
  rename_i hb
  split at h
  · injection h with _ h; cases h
  rename_i hl
  injection h with h _
  subst h
  have hk2 : kind = 1 ∨ kind = 2 := by
    cases hkk : kindB kind
    · exact absurd hkk hk
    · unfold kindB at hkk; simpa using hkk
  have hc : ∀ y ∈ xs.map cleanV, cleanV y = y := fun y hy => by
    obtain ⟨x, _, rfl⟩ := List.mem_map.1 hy
    exact clean_clean x
  have hb2 : ∀ y ∈ xs.map cleanV, badK kind y = false := fun y hy => by
    cases hbb : badK kind y
    · rfl
    · exact absurd (List.any_eq_true.2 ⟨y, hy, hbb⟩) hb
  have hl2 : ∀ y ∈ xs.map cleanV, largeB y.s = false := fun y hy => by
    cases hbb : largeB y.s
    · rfl
    · exact absurd (List.any_eq_true.2 ⟨y, hy, hbb⟩) hl
  have hv := laid_vals hk2 hc hb2 hl2
  have ec : (xs.map cleanV).map cleanV = xs.map cleanV := by
    conv => rhs; rw [← List.map_id (xs.map cleanV)]
    exact List.map_congr_left fun y hy => hc y hy
  refine ⟨laid_good hk2 hc hb2 hl2, rfl, hv, ?_, by simp [laidV, nlOf], ?_, ?_, ?_⟩
  · rw [hv]
    show fromV kind (xs.map cleanV) = _
    unfold fromV
    rw [if_neg hk, ec, if_neg hb, if_neg hl]
  · simp only [laidV]; split <;> simp
  · simp only [laidV]; split <;> simp
  · intro hr n hn
    simp only [laidV] at hn
    split at hn
    · obtain ⟨y, hy, rfl⟩ := List.mem_map.1 hn
      obtain ⟨x, hx, rfl⟩ := List.mem_map.1 hy
      rcases clean_cases x with e | e | e
      · rw [e]; decide
      · rw [e]; exact hr x hx
      · rw [e]; show -9223372036854775808 ≤ (0 : Int) ∧ (0 : Int) ≤ 9223372036854775807; decide
    · cases hn
theorem from_bad {kind : Int} {xs : List Val} (h : (fromV kind xs).2 ≠ 0) : (fromV kind xs).1 = .zero := by
  unfold fromV at h ⊢
  split
  · rfl
  · split
    · rfl
    · split
      · rfl
      · rename_i h1 h2 h3
        rw [if_neg h1, if_neg h2, if_neg h3] at h
        exact absurd rfl h
theorem words_one {ys W W' : List Val} (hc : ∀ y ∈ ys, cleanV y = y) (h : WordsOf ys W) (h' : WordsOf ys W') : W = W' := by
  obtain ⟨S, hp, hr, rfl⟩ := h
  obtain ⟨S', hp', hr', rfl⟩ := h'
  rw [rises_eq hr hr' (hp.trans hp'.symm) (fun x hx => hc x (hp.mem_iff.1 hx))]
theorem body_one {n : Nat} {ys : List Val} {b b' : List Int} (hc : ∀ y ∈ ys, cleanV y = y) (h : BodyB n ys b) (h' : BodyB n ys b') : b = b' := by
  rcases h with ⟨rfl, rfl⟩ | ⟨rfl, rfl⟩ | ⟨rfl, W, hW, rfl⟩ | ⟨rfl, rfl⟩
  · rcases h' with ⟨_, rfl⟩ | ⟨e, _⟩ | ⟨e, _⟩ | ⟨e, _⟩
    · rfl
    all_goals cases e
  · rcases h' with ⟨e, _⟩ | ⟨_, rfl⟩ | ⟨e, _⟩ | ⟨e, _⟩
    · cases e
    · rfl
    all_goals cases e
  · rcases h' with ⟨e, _⟩ | ⟨e, _⟩ | ⟨_, W', hW', rfl⟩ | ⟨e, _⟩
    · cases e
    · cases e
    · rw [words_one hc hW hW']
    · cases e
  · rcases h' with ⟨e, _⟩ | ⟨e, _⟩ | ⟨e, _⟩ | ⟨_, rfl⟩
    · cases e
    · cases e
    · cases e
    · rfl
/-- Write answers one thing. -/
theorem pw_one {X : Vc} (hg : goodB X = true) {n : Int} {s s' : ByteArray} {f f' : Int} (h : PW X n s f) (h' : PW X n s' f') : s = s' ∧ f = f' := by
  rcases h with ⟨h1, rfl, rfl⟩ | ⟨h1, h2, rfl, rfl⟩ | ⟨h1, h2, rfl, b, hb, rfl⟩
  · rcases h' with ⟨_, rfl, rfl⟩ | ⟨g1, _⟩ | ⟨g1, _⟩
    · exact ⟨rfl, rfl⟩
    · rw [h1] at g1; cases g1
    · rw [h1] at g1; cases g1
  · rcases h' with ⟨g1, _⟩ | ⟨_, _, rfl, rfl⟩ | ⟨_, g2, _⟩
    · rw [h1] at g1; cases g1
    · exact ⟨rfl, rfl⟩
    · omega
  · rcases h' with ⟨g1, _⟩ | ⟨_, g2, _⟩ | ⟨_, _, rfl, b', hb', rfl⟩
    · rw [h1] at g1; cases g1
    · omega
    · rw [body_one (fun y hy => vals_clean hg (List.mem_filter.1 hy).1) hb hb']
      exact ⟨rfl, rfl⟩
/-- The shortest is one of them, and as short as any. -/
theorem pb_one {X : Vc} (hg : goodB X = true) : ∀ (j : Nat) (b : ByteArray), PB X j b → (∃ n : Nat, 1 ≤ n ∧ n ≤ j + 1 ∧ PW X (n : Int) b 0) ∧ ∀ (n : Nat) (s : ByteArray), 1 ≤ n → n ≤ j + 1 → PW X (n : Int) s 0 → b.size ≤ s.size
  | 0, b, h => by
    refine ⟨⟨1, by omega, by omega, h⟩, fun n s h1 h2 hs => ?_⟩
    have : n = 1 := by omega
    subst this
    rw [(pw_one hg h hs).1]; exact Nat.le_refl _
  | j + 1, b, ⟨c, s, f, hc, hs, hb⟩ => by
    obtain ⟨⟨n, n1, n2, hn⟩, hmin⟩ := pb_one hg j c hc
    have e : (j : Int) + 2 = ((j + 2 : Nat) : Int) := by omega
    rw [e] at hs
    subst hb
    unfold pickB
    by_cases hp : f = 0 ∧ s.size < c.size
    · rw [if_pos hp]
      obtain ⟨rfl, hlt⟩ := hp
      refine ⟨⟨j + 2, by omega, by omega, hs⟩, fun m t m1 m2 ht => ?_⟩
      by_cases hm : m = j + 2
      · subst hm; rw [(pw_one hg hs ht).1]; exact Nat.le_refl _
      · have := hmin m t m1 (by omega) ht; omega
    · rw [if_neg hp]
      refine ⟨⟨n, n1, by omega, hn⟩, fun m t m1 m2 ht => ?_⟩
      by_cases hm : m = j + 2
      · subst hm
        obtain ⟨e1, e2⟩ := pw_one hg hs ht
        subst e1; subst e2
        have : ¬ s.size < c.size := fun h => hp ⟨rfl, h⟩
        omega
      · exact hmin m t m1 (by omega) ht
theorem runsB_len : ∀ (f : Nat) (xs : List Val), (∀ x ∈ xs, x.s.size ≤ 1000) → (runsB f xs).length ≤ 1012 * f
  | 0, _, _ => by simp [runsB]
  | f + 1, [], _ => by simp [runsB]
  | f + 1, x :: xs, h => by
    have h1 := plainL_len x
    have h2 := h x (by simp)
    have h3 := runsB_len f ((x :: xs).drop (aheadN (x :: xs))) (fun y hy => h y (List.mem_of_mem_drop hy))
    rw [runsB, List.length_append, List.length_append, beL_len]
    omega
theorem bytesN_le {k d : Nat} (hk : k ≤ 4096) (hd : d ≤ 64) : bytesN k d ≤ 32769 := by
  have : k * d ≤ 4096 * 64 := Nat.mul_le_mul hk hd
  unfold bytesN; omega
theorem body_len {n : Nat} {ys : List Val} {b : List Int} (h : BodyB n ys b) (hl : ys.length ≤ 4096) (hs : ∀ x ∈ ys, x.s.size ≤ 1000) : b.length ≤ 5000000 := by
  rcases h with ⟨_, rfl⟩ | ⟨_, rfl⟩ | ⟨_, W, hW, rfl⟩ | ⟨_, rfl⟩
  · have := plains_len4 ys hs hl; omega
  · have := runsB_len ys.length ys hs
    rw [List.length_append, beL_len]; omega
  · have h1 := plains_len4 W (fun x hx => hs x (hW.sub hx)) (by have := hW.len; omega)
    have hlen := hW.len
    have hd : bl (W.length - 1) ≤ 64 := bl_le (by have : (2:Nat)^64 = 18446744073709551616 := by decide
                                                  omega)
    have := bytesN_le hl hd
    unfold wordsB
    rw [List.length_append, List.length_append, beL_len, leB_len]; omega
  · have := bytesN_le hl (widL_le (leastI ys) ys)
    unfold offsB
    rw [List.length_append, List.length_append, beL_len, beL_len, leB_len]; omega
theorem pw_size {X : Vc} {n : Int} {s : ByteArray} (h : PW X n s 0) : s.size ≤ 6000000 := by
  rcases h with ⟨_, _, h⟩ | ⟨_, _, _, h⟩ | ⟨hb, hl, _, b, hbody, rfl⟩
  · cases h
  · cases h
  have hg : goodB X = true := by
    unfold badW at hb
    cases hgg : goodB X
    · rw [hgg] at hb; simp at hb
    · rfl
  have hvl : (valsV X).length ≤ 4096 := Nat.le_trans (vals_le X) hl
  have h1 := body_len hbody (Nat.le_trans (List.length_filter_le _ _) hvl) (fun x hx => vals_size hg (List.mem_filter.1 hx).1)
  have h2 := nulls_len (valsV X) hvl
  rw [toB_size, List.length_append]
  unfold headB
  rw [List.length_append, List.length_append, List.length_append, beL_len, beL_len, beL_len]
  omega
theorem pw_opens {X : Vc} (hr : ∀ n ∈ X.ns, -9223372036854775808 ≤ n ∧ n ≤ 9223372036854775807) {n : Nat} (h1 : 1 ≤ n) (h4 : n ≤ 4) {s : ByteArray} (h : PW X (n : Int) s 0) : Opens s n X.k (valsV X) :=
  opens_of (by have := pw_size h; omega) (packed_col hr (by omega) h)
end Go.Proofs.YtbdkpkpncmagoaaGreat
set_option linter.unusedSimpArgs false
set_option linter.unusedVariables false
namespace Go.Proofs.YtbdkpkpncmagoaaGreat
open Go.RowKit Go.Sort

set_option maxHeartbeats 4000000 in
set_option maxRecDepth 100000 in
theorem samerows_one (aa ab : Option Addr) (ca cb : Nat) (rs : List (List Val)) (w : World) (hla : rs.length ≤ maxLen) (hlr : ∀ r ∈ rs, r.length ≤ 1048576) (ha : RowsAt w aa rs) (hb : RowsAt w ab rs) :
    Calls Tryz.prog 7 #[.slice aa rs.length ca, .slice ab rs.length cb] w fun e w' => e = .returned (.bool true) ∧ Below w.heap.size w w' := by
  unfold maxLen at hla
  have HLR := hide hlr
  clear hlr
  go_enter Tryz.func7, Tryz.ntmps7
  go_wp2_with fail
  go_loopw [13] (fun i wr => ∃ k : Nat, k ≤ rs.length ∧ i = .int .i64 k ∧ Below w.heap.size w wr) (fun i wx => rs.length - (intOf i).toNat)
  case atStart => exact ⟨0, Nat.zero_le _, rfl, Below.refl _ _⟩
  case round =>
    obtain ⟨k, hk1, rfl, hbel⟩ := hrel
    have ha' := ha.later hbel
    have hb' := hb.later hbel
    by_cases h1 : k < rs.length
    · obtain ⟨r, hr⟩ : ∃ r, rs[k]? = some r := ⟨_, List.getElem?_eq_getElem h1⟩
      rcases ha' with e | ⟨ba, oa, rfl, hca⟩
      · subst e; simp at h1
      rcases hb' with e | ⟨bb, ob, rfl, hcb⟩
      · subst e; simp at h1
      obtain ⟨r1, c1, e1, d1⟩ := hca k r hr
      obtain ⟨r2, c2, e2, d2⟩ := hcb k r hr
      have i1 : (k : Int) < (rs.length : Int) := by omega
      have HM := hide (unhide HLR r (List.mem_of_getElem? hr))
      have HD1 := hide d1
      have HD2 := hide d2
      have k1 := cell_regrown e1
      have k2 := cell_regrown e2
      have HC : Hid (∀ d os, Calls Tryz.prog 19 #[.slice r1 r.length c1, .slice r2 r.length c2] (grow (redrawn wr d) os) fun e w' => e = .returned (.bool true) ∧ Below (grow (redrawn wr d) os).heap.size (grow (redrawn wr d) os) w') := fun d os => samerow_same r1 r2 c1 c2 r _ (unhide HM) ((unhide HD1).later (below_regrown _ _ _)) ((unhide HD2).later (below_regrown _ _ _))
      clear hca hcb hr d1 d2
      go_wp2_with fail
      refine wp_region_quiet_below (by kernel_rfl) (by kernel_rfl) ?_
      repeat (go_big_quiet_step ((go_at_call 19; exact Calls.regrown_of (unhide HC _ _))))
      refine wpQuiet_nil ?_
      intro w' hw'
      have hB : Below wr.heap.size wr w' := by obtain ⟨p, rfl⟩ := hw'; exact below_regrown _ _ _
      clear hw'
      have hbel' := below_step hbel hB
      go_wp2
      go_roundw
      case rel => exact ⟨k + 1, by omega, by go_num, hbel'⟩
      case measure => simp [intOf]; omega
    · have i1 : ¬ (k : Int) < (rs.length : Int) := by omega
      go_wp2
      go_ret
      exact ⟨rfl, hbel⟩
end Go.Proofs.YtbdkpkpncmagoaaGreat
set_option linter.unusedSimpArgs false
set_option linter.unusedVariables false
set_option maxRecDepth 100000
namespace Go.Proofs.YtbdkpkpncmagoaaGreat
open Go.RowKit Go.Sort

theorem flat3_len (xs : List Val) : (xs.flatMap c3).length = xs.length * 3 := by
  induction xs with
  | nil => rfl
  | cons x xs ih => rw [List.flatMap_cons, List.length_append, ih, List.length_cons]; show 3 + _ = _; omega
theorem ownV_of {w : World} {base g m : Nat} {zs : List Value} {r : List Val} (h : w.ownsRow base 42 3 (.slice (some ⟨g, 0, none⟩) m m) m zs) (hr : RowAt w (some ⟨g, 0, none⟩) r) (hm : r.length = m) : OwnV w base (.slice (some ⟨g, 0, none⟩) m m) r := by
  have hl := flat3_len r
  have hz : zs.length = m * 3 := h.1
  have hadd : ∀ k, (⟨g, 0, none⟩ : Addr).add k = ⟨g, k, none⟩ := fun k => by unfold Addr.add; split <;> simp_all
  have e : zs = r.flatMap c3 := by
    apply List.ext_getElem?
    intro j
    by_cases hj : j < m * 3
    · have h1 := World.ownsRow.cellAt h j hj
      obtain ⟨u, hu⟩ : ∃ u, (r.flatMap c3)[j]? = some u := ⟨_, List.getElem?_eq_getElem (by omega)⟩
      have h2 := row_cells hr j u hu
      rw [hadd] at h2
      rw [← h1, hu, h2]
    · rw [List.getElem?_eq_none (by omega), List.getElem?_eq_none (by omega)]
  subst e
  unfold OwnV
  rw [hm]
  exact h
/-- What vec.Table answers, as rows of their own. -/
theorem rowsO_rwo {w : World} {base : Nat} {v : Value} {rs : List (List Val)} (h1 : RowsV w v rs) (h2 : RowsO w base v rs.length) : ∃ a c cs, v = .slice a rs.length c ∧ RwO w (fun b => base ≤ b ∧ b < w.heap.size) a c rs cs := by
  obtain ⟨ra, rc, rfl, hra⟩ := h1
  obtain ⟨m, cs, hm, hown, hrow, hap⟩ := h2
  refine ⟨ra, rc, cs, rfl, own_lessB hown (Nat.zero_le _), fun j r u hr hu => ?_, fun j u b hu hb => ?_, fun j j' u u' b hne hu hu' hb hb' => ?_, fun g hg => World.ownsRow.lt hown g hg⟩
  · obtain ⟨g, zs, rfl, hz⟩ := hrow j u hu
    rcases hra with e | ⟨b, off, rfl, hat⟩
    · subst e; simp at hr
    · obtain ⟨ra', rc', hc, hR⟩ := hat j r hr
      have hj := (List.getElem?_eq_some_iff.1 hr).1
      have hoff : off = 0 := by
        rcases hown.2 with ⟨e, _⟩ | ⟨g0, cap, cur, e, _⟩
        · injection e with e; cases e
        · injection e with e; injection e with e; injection e
      subst hoff
      rw [Nat.zero_add, World.ownsRow.cellAt hown j (by omega), hu] at hc
      injection hc with hc
      injection hc with e1 e2 e3
      subst e1
      exact own_lessB (ownV_of hz hR e2.symm) (Nat.zero_le _)
  · obtain ⟨g, zs, rfl, hz⟩ := hrow j u hu
    exact World.ownsRow.lt hz b hb
  · rcases Nat.lt_or_gt_of_ne hne with h | h
    · exact hap j j' u u' h hu hu' (hb.trans hb'.symm)
    · exact hap j' j u' u h hu' hu (hb'.trans hb.symm)
/-- Rows with nothing in them. -/
theorem nil_rwo {w : World} {base n c : Nat} {a : Option Addr} (h : w.ownsRow base 34 1 (.slice a n c) n (List.replicate n (.slice none 0 0))) : RwO w (fun b => base ≤ b ∧ b < w.heap.size) a c (List.replicate n []) (List.replicate n (.slice none 0 0)) := by
  have hc : ∀ (j : Nat) (u : Value), (List.replicate n (Value.slice none 0 0))[j]? = some u → u = .slice none 0 0 := fun j u hu => by
    rw [List.getElem?_replicate] at hu
    split at hu
    · injection hu with hu; exact hu.symm
    · cases hu
  refine ⟨?_, fun j r u hr hu => ?_, fun j u b hu hb => ?_, fun j j' u u' b hne hu hu' hb hb' => ?_, fun g hg => ?_⟩
  · rw [List.length_replicate]; exact own_lessB h (Nat.zero_le _)
  · rw [hc j u hu]
    rw [List.getElem?_replicate] at hr
    split at hr
    · injection hr with hr; subst hr; exact World.ownsRow_nil _ _ _ _
    · cases hr
  · rw [hc j u hu] at hb; cases hb
  · rw [hc j u hu] at hb; cases hb
  · rw [List.length_replicate] at hg; exact World.ownsRow.lt h g hg
end Go.Proofs.YtbdkpkpncmagoaaGreat
set_option linter.unusedSimpArgs false
set_option linter.unusedVariables false
set_option maxRecDepth 100000
namespace Go.Proofs.YtbdkpkpncmagoaaGreat
open Go.RowKit Go.Sort

/-- A view: what is said of the blocks F. -/
structure Vf where
  F : Nat → Prop
  P : World → Prop
  keep : ∀ w w', (∀ q, F q → w'.heap[q]? = w.heap[q]?) → P w → P w'
theorem cell_sameF {w w' : World} {q j : Nat} {x : Value} (h : w'.heap[q]? = w.heap[q]?) (hx : w.cell? ⟨q, j, none⟩ = some x) : w'.cell? ⟨q, j, none⟩ = some x := by
  rw [← hx]; unfold World.cell?; rw [h]
theorem frozen_sameF {w w' : World} {q j : Nat} (h : w'.heap[q]? = w.heap[q]?) : w'.frozen? ⟨q, j, none⟩ = w.frozen? ⟨q, j, none⟩ := by
  unfold World.frozen?; rw [h]
/-- Rows of one's own. -/
def Vf.rows (F : Nat → Prop) (a : Option Addr) (c : Nat) (rs : List (List Val)) : Vf := ⟨F, fun w => ∃ cs, RwO w F a c rs cs, fun w w' hk ⟨cs, h⟩ => ⟨cs, h.keep hk⟩⟩
/-- A list of one's own: numbers. -/
def Vf.ints (v : Value) (xs : List Int) : Vf := ⟨fun q => v.ownBlock = some q, fun w => w.ownsRow 0 3 1 v xs.length (xs.map (.int .i64)), fun w w' hk h => own_keep h hk⟩
/-- .. values. -/
def Vf.vals (v : Value) (xs : List Val) : Vf := ⟨fun q => v.ownBlock = some q, fun w => OwnV w 0 v xs, fun w w' hk h => own_keep h hk⟩
/-- A column of one's own. -/
def Vf.vec (X : Vc) (p : Sl) : Vf := ⟨slB X p, fun w => Own3 w 0 X p, fun w w' hk h => ⟨own_keep h.1 fun g hg => hk g (.inl hg), own_keep h.2.1 fun g hg => hk g (.inr (.inl hg)), own_keep h.2.2 fun g hg => hk g (.inr (.inr hg))⟩⟩
/-- A box of four cells. -/
def Vf.box (b t : Nat) (u0 u1 u2 u3 : Value) : Vf := ⟨fun q => q = b, fun w => w.rowIs b t 4 (box4 u0 u1 u2 u3), fun w w' hk h => by
  obtain ⟨cs, h1, h2⟩ := h
  exact ⟨cs, (hk b rfl).trans h1, h2⟩⟩
/-- The law's state: views that lie apart. -/
structure StF (w0 w : World) (VB : List Vf) : Prop where
  bel : Below w0.heap.size w0 w
  all : ∀ v ∈ VB, v.P w ∧ ∀ q, v.F q → w0.heap.size ≤ q ∧ q < w.heap.size
  apart : VB.Pairwise (fun v u => ∀ q, v.F q → u.F q → False)
section
variable {w0 w w' : World} {VB C : List Vf}
theorem StF.nil (w : World) : StF w w [] := ⟨Below.refl _ _, fun v hv => absurd hv List.not_mem_nil, List.Pairwise.nil⟩
theorem StF.get (h : StF w0 w VB) (i : Nat) {v : Vf} (hv : VB[i]? = some v) : v.P w := (h.all v (List.mem_of_getElem? hv)).1
theorem StF.in (h : StF w0 w VB) (i : Nat) {v : Vf} (hv : VB[i]? = some v) : ∀ q, v.F q → w0.heap.size ≤ q ∧ q < w.heap.size := (h.all v (List.mem_of_getElem? hv)).2
/-- What C says is used up; what changes is theirs. -/
theorem StF.use {G : Nat → Prop} (h : StF w0 w (C ++ VB)) (hK : Ky G w w') (hG : ∀ q, q < w.heap.size → G q → ∃ u ∈ C, u.F q) : StF w0 w' VB := by
  obtain ⟨a1, a2, a3⟩ := List.pairwise_append.1 h.apart
  have hsz := hK.size
  refine ⟨h.bel.trans ((hK.less (G := fun q => w0.heap.size ≤ q) fun q hq hg => ?_).below (fun k hk => hk) h.bel.size), fun v hv => ?_, a2⟩
  · obtain ⟨u, hu, huq⟩ := hG q hq hg
    exact ((h.all u (List.mem_append_left _ hu)).2 q huq).1
  · obtain ⟨p1, p2⟩ := h.all v (List.mem_append_right _ hv)
    refine ⟨v.keep w w' (fun q hq => hK.block q (p2 q hq).2 fun hg => ?_) p1, fun q hq => ⟨(p2 q hq).1, Nat.lt_of_lt_of_le (p2 q hq).2 hsz⟩⟩
    obtain ⟨u, hu, huq⟩ := hG q (p2 q hq).2 hg
    exact a3 u hu v hv q huq hq
/-- .. and one is made of them, and of new memory. -/
theorem StF.step {G : Nat → Prop} (h : StF w0 w (C ++ VB)) (hK : Ky G w w') (hG : ∀ q, q < w.heap.size → G q → ∃ u ∈ C, u.F q) (v : Vf) (hP : v.P w') (hF : ∀ q, v.F q → (∃ u ∈ C, u.F q) ∨ (w.heap.size ≤ q ∧ q < w'.heap.size)) : StF w0 w' (v :: VB) := by
  have h1 := h.use hK hG
  obtain ⟨a1, a2, a3⟩ := List.pairwise_append.1 h.apart
  have hsz := hK.size
  have hb0 := h.bel.size
  refine ⟨h1.bel, fun u hu => ?_, List.pairwise_cons.2 ⟨fun u hu q hq huq => ?_, h1.apart⟩⟩
  · rcases List.mem_cons.1 hu with rfl | hu
    · refine ⟨hP, fun q hq => ?_⟩
      rcases hF q hq with ⟨u, hu, huq⟩ | hq
      · have := (h.all u (List.mem_append_left _ hu)).2 q huq
        exact ⟨this.1, by omega⟩
      · exact ⟨by omega, hq.2⟩
    · exact h1.all u hu
  · rcases hF q hq with ⟨x, hx, hxq⟩ | hq
    · exact a3 x hx u hu q hxq huq
    · have := (h.all u (List.mem_append_right _ hu)).2 q huq
      omega
theorem StF.below (h : StF w0 w VB) (hb : Below w.heap.size w w') : StF w0 w' VB := h.use (C := []) (G := fun _ => False) (Ky.of_below hb) fun q _ h => h.elim
theorem StF.make (h : StF w0 w VB) (hb : Below w.heap.size w w') (v : Vf) (hF : ∀ q, v.F q → w.heap.size ≤ q ∧ q < w'.heap.size) (hP : v.P w') : StF w0 w' (v :: VB) := h.step (C := []) (G := fun _ => False) (Ky.of_below hb) (fun q _ h => h.elim) v hP fun q hq => .inr (hF q hq)
theorem StF.drew (h : StF w0 w VB) : StF w0 w.drew VB := ⟨h.bel.drew, fun v hv => ⟨v.keep w w.drew (fun q _ => rfl) (h.all v hv).1, (h.all v hv).2⟩, h.apart⟩
theorem StF.perm {VB' : List Vf} (h : StF w0 w VB) (hp : VB.Perm VB') : StF w0 w VB' := ⟨h.bel, fun v hv => h.all v (hp.mem_iff.2 hv), (hp.pairwise_iff fun {x y} hxy q hy hx => hxy q hx hy).1 h.apart⟩
theorem front_permF : ∀ (l : List Vf) (i : Nat) (v : Vf), l[i]? = some v → (v :: l.eraseIdx i).Perm l
  | [], i, v, h => by simp at h
  | x :: l, 0, v, h => by
    simp only [List.getElem?_cons_zero, Option.some.injEq] at h
    subst h
    exact List.Perm.refl _
  | x :: l, i + 1, v, h => by
    simp only [List.getElem?_cons_succ] at h
    exact (List.Perm.swap x v _).trans ((front_permF l i v h).cons x)
/-- One of them to the front. -/
theorem StF.front (h : StF w0 w VB) (i : Nat) {v : Vf} (hv : VB[i]? = some v) : StF w0 w (v :: VB.eraseIdx i) := h.perm (front_permF VB i v hv).symm
theorem StF.del (h : StF w0 w VB) (i : Nat) : StF w0 w (VB.eraseIdx i) := ⟨h.bel, fun v hv => h.all v (List.mem_of_mem_eraseIdx hv), h.apart.sublist (List.eraseIdx_sublist VB i)⟩
end

section
variable {w0 w w' : World} {VB : List Vf}
theorem StF.rows (h : StF w0 w VB) (hb : Below w.heap.size w w') {base : Nat} (hw : w.heap.size ≤ base) {a : Option Addr} {c : Nat} {rs : List (List Val)} {cs : List Value} (hx : RwO w' (fun b => base ≤ b ∧ b < w'.heap.size) a c rs cs) : StF w0 w' (Vf.rows (fun b => base ≤ b ∧ b < w'.heap.size) a c rs :: VB) :=
  h.make hb _ (fun q hq => ⟨Nat.le_trans hw hq.1, hq.2⟩) ⟨cs, hx⟩
theorem StF.ints (h : StF w0 w VB) (hb : Below w.heap.size w w') {base n : Nat} (hw : w.heap.size ≤ base) {v : Value} {xs : List Int} (hn : n = xs.length) (hx : w'.ownsRow base 3 1 v n (xs.map (.int .i64))) : StF w0 w' (Vf.ints v xs :: VB) := by
  subst hn
  exact h.make hb _ (fun q hq => ⟨Nat.le_trans hw (World.ownsRow.lt hx q hq).1, (World.ownsRow.lt hx q hq).2⟩) (own_lessB hx (Nat.zero_le _))
theorem StF.vals (h : StF w0 w VB) (hb : Below w.heap.size w w') {base : Nat} (hw : w.heap.size ≤ base) {v : Value} {xs : List Val} (hx : OwnV w' base v xs) : StF w0 w' (Vf.vals v xs :: VB) :=
  h.make hb _ (fun q hq => ⟨Nat.le_trans hw (World.ownsRow.lt hx q hq).1, (World.ownsRow.lt hx q hq).2⟩) (own_lessB hx (Nat.zero_le _))
theorem StF.vec (h : StF w0 w VB) (hb : Below w.heap.size w w') {base : Nat} (hw : w.heap.size ≤ base) {X : Vc} {p : Sl} (hx : Own3 w' base X p) : StF w0 w' (Vf.vec X p :: VB) := by
  refine h.make hb _ (fun q hq => ?_) (hx.less (Nat.zero_le _))
  rcases hq with hq | hq | hq
  · exact ⟨Nat.le_trans hw (World.ownsRow.lt hx.1 q hq).1, (World.ownsRow.lt hx.1 q hq).2⟩
  · exact ⟨Nat.le_trans hw (World.ownsRow.lt hx.2.1 q hq).1, (World.ownsRow.lt hx.2.1 q hq).2⟩
  · exact ⟨Nat.le_trans hw (World.ownsRow.lt hx.2.2 q hq).1, (World.ownsRow.lt hx.2.2 q hq).2⟩
/-- A box that is made. -/
theorem StF.box (h : StF w0 w VB) {t : Nat} {u0 u1 u2 u3 : Value} {W : World} (hW : w.alloc (.cells #[u0, u1, u2, u3] t) = W) : StF w0 W (Vf.box w.heap.size t u0 u1 u2 u3 :: VB) := by
  subst hW
  refine h.make (below_alloc (Below.refl _ _) _) _ (fun q hq => ?_) (World.rowIs_alloc w _ t _ fun i hi => ?_)
  · have : q = w.heap.size := hq
    subst this
    exact ⟨Nat.le_refl _, by show w.heap.size < (w.heap.push _).size; rw [Array.size_push]; omega⟩
  · match i, hi with
    | 0, _ => rfl
    | 1, _ => rfl
    | 2, _ => rfl
    | 3, _ => rfl
/-- A view is spoilt. -/
theorem StF.spoil {v : Vf} (h : StF w0 w (v :: VB)) (hK : Ky v.F w w') : StF w0 w' VB := StF.use (C := [v]) h hK fun q _ hq => ⟨_, List.mem_singleton.2 rfl, hq⟩
/-- A box is stored into. -/
theorem StF.put {b t : Nat} {u0 u1 u2 u3 : Value} (h : StF w0 w (Vf.box b t u0 u1 u2 u3 :: VB)) (x0 x1 x2 x3 : Value) : StF w0 ((((w.setCell ⟨b, 0, none⟩ x0).setCell ⟨b, 1, none⟩ x1).setCell ⟨b, 2, none⟩ x2).setCell ⟨b, 3, none⟩ x3) (Vf.box b t x0 x1 x2 x3 :: VB) := by
  have hr : w.rowIs b t 4 (box4 u0 u1 u2 u3) := h.get 0 rfl
  have hK : Ky (fun q => q = b) w ((((w.setCell ⟨b, 0, none⟩ x0).setCell ⟨b, 1, none⟩ x1).setCell ⟨b, 2, none⟩ x2).setCell ⟨b, 3, none⟩ x3) := by
    refine ⟨rfl, rfl, rfl, Nat.le_of_eq (by simp), fun q hq hn => ?_⟩
    have hne : q ≠ b := hn
    rw [Below.heap_setCell _ _ _ _ (by simpa using hne), Below.heap_setCell _ _ _ _ (by simpa using hne), Below.heap_setCell _ _ _ _ (by simpa using hne), Below.heap_setCell _ _ _ _ (by simpa using hne)]
  refine StF.step (C := [Vf.box b t u0 u1 u2 u3]) h hK (fun q _ hq => ⟨_, List.mem_singleton.2 rfl, hq⟩) (Vf.box b t x0 x1 x2 x3) ?_ fun q hq => .inl ⟨_, List.mem_singleton.2 rfl, hq⟩
  · refine World.rowIs.congr ((((hr.set 0 x0).set 1 x1).set 2 x2).set 3 x3) (fun i hi => ?_)
    match i, hi with
    | 0, _ => rfl
    | 1, _ => rfl
    | 2, _ => rfl
    | 3, _ => rfl
end
end Go.Proofs.YtbdkpkpncmagoaaGreat

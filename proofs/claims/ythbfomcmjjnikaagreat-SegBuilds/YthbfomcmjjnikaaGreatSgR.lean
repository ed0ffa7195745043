import Derived.Test.YthbfomcmjjnikaaGreatSgN
import Derived.Test.YthbfomcmjjnikaaGreatRyZ
import Derived.Test.YthbfomcmjjnikaaGreatSgQ
set_option linter.unusedSimpArgs false
set_option linter.unusedVariables false
namespace Go.Proofs.YthbfomcmjjnikaaGreat
open Go.RowKit Go.Sort

theorem words_one {ys W W' : List Val} (hc : ∀ y ∈ ys, cleanV y = y) (h : WordsOf ys W) (h' : WordsOf ys W') : W = W' := by
  obtain ⟨S, hp, hr, rfl⟩ := h
  obtain ⟨S', hp', hr', rfl⟩ := h'
  rw [rises_eq hr hr' (hp.trans hp'.symm) (fun x hx => hc x (hp.mem_iff.1 hx))]
theorem body_one {n : Nat} {ys : List Val} {b b' : List Int} (hc : ∀ y ∈ ys, cleanV y = y) (h : BodyB n ys b) (h' : BodyB n ys b') : b = b' := by
  rcases h with ⟨rfl, rfl⟩ | ⟨rfl, rfl⟩ | ⟨rfl, W, hW, rfl⟩ | ⟨rfl, rfl⟩
  · rcases h' with ⟨_, rfl⟩ | ⟨e, _⟩ | ⟨e, _⟩ | ⟨e, _⟩
    · rfl
    all_goals cases e
  · rcases h' with ⟨e, _⟩ | ⟨_, rfl⟩ | ⟨e, _⟩ | ⟨e, _⟩
    · cases e
    · rfl
    all_goals cases e
  · rcases h' with ⟨e, _⟩ | ⟨e, _⟩ | ⟨_, W', hW', rfl⟩ | ⟨e, _⟩
    · cases e
    · cases e
    · rw [words_one hc hW hW']
    · cases e
  · rcases h' with ⟨e, _⟩ | ⟨e, _⟩ | ⟨e, _⟩ | ⟨_, rfl⟩
    · cases e
    · cases e
    · cases e
    · rfl
/-- Write answers one thing. -/
theorem pw_one {X : Vc} (hg : goodB X = true) {n : Int} {s s' : ByteArray} {f f' : Int} (h : PW X n s f) (h' : PW X n s' f') : s = s' ∧ f = f' := by
  rcases h with ⟨h1, rfl, rfl⟩ | ⟨h1, h2, rfl, rfl⟩ | ⟨h1, h2, rfl, b, hb, rfl⟩
  · rcases h' with ⟨_, rfl, rfl⟩ | ⟨g1, _⟩ | ⟨g1, _⟩
    · exact ⟨rfl, rfl⟩
    · rw [h1] at g1; cases g1
    · rw [h1] at g1; cases g1
  · rcases h' with ⟨g1, _⟩ | ⟨_, _, rfl, rfl⟩ | ⟨_, g2, _⟩
    · rw [h1] at g1; cases g1
    · exact ⟨rfl, rfl⟩
    · omega
  · rcases h' with ⟨g1, _⟩ | ⟨_, g2, _⟩ | ⟨_, _, rfl, b', hb', rfl⟩
    · rw [h1] at g1; cases g1
    · omega
    · rw [body_one (fun y hy => vals_clean hg (List.mem_filter.1 hy).1) hb hb']
      exact ⟨rfl, rfl⟩
/-- The shortest is one of them, and as short as any. -/
theorem pb_one {X : Vc} (hg : goodB X = true) : ∀ (j : Nat) (b : ByteArray), PB X j b → (∃ n : Nat, 1 ≤ n ∧ n ≤ j + 1 ∧ PW X (n : Int) b 0) ∧ ∀ (n : Nat) (s : ByteArray), 1 ≤ n → n ≤ j + 1 → PW X (n : Int) s 0 → b.size ≤ s.size
  | 0, b, h => by
    refine ⟨⟨1, by omega, by omega, h⟩, fun n s h1 h2 hs => ?_⟩
    have : n = 1 := by omega
    subst this
    rw [(pw_one hg h hs).1]; exact Nat.le_refl _
  | j + 1, b, ⟨c, s, f, hc, hs, hb⟩ => by
    obtain ⟨⟨n, n1, n2, hn⟩, hmin⟩ := pb_one hg j c hc
    have e : (j : Int) + 2 = ((j + 2 : Nat) : Int) := by omega
    rw [e] at hs
    subst hb
    unfold pickB
    by_cases hp : f = 0 ∧ s.size < c.size
    · rw [if_pos hp]
      obtain ⟨rfl, hlt⟩ := hp
      refine ⟨⟨j + 2, by omega, by omega, hs⟩, fun m t m1 m2 ht => ?_⟩
      by_cases hm : m = j + 2
      · subst hm; rw [(pw_one hg hs ht).1]; exact Nat.le_refl _
      · have := hmin m t m1 (by omega) ht; omega
    · rw [if_neg hp]
      refine ⟨⟨n, n1, by omega, hn⟩, fun m t m1 m2 ht => ?_⟩
      by_cases hm : m = j + 2
      · subst hm
        obtain ⟨e1, e2⟩ := pw_one hg hs ht
        subst e1; subst e2
        have : ¬ s.size < c.size := fun h => hp ⟨rfl, h⟩
        omega
      · exact hmin m t m1 (by omega) ht
theorem runsB_len : ∀ (f : Nat) (xs : List Val), (∀ x ∈ xs, x.s.size ≤ 1000) → (runsB f xs).length ≤ 1012 * f
  | 0, _, _ => by simp [runsB]
  | f + 1, [], _ => by simp [runsB]
  | f + 1, x :: xs, h => by
    have h1 := plainL_len x
    have h2 := h x (by simp)
    have h3 := runsB_len f ((x :: xs).drop (aheadN (x :: xs))) (fun y hy => h y (List.mem_of_mem_drop hy))
    rw [runsB, List.length_append, List.length_append, beL_len]
    omega
theorem bytesN_le {k d : Nat} (hk : k ≤ 4096) (hd : d ≤ 64) : bytesN k d ≤ 32769 := by
  have : k * d ≤ 4096 * 64 := Nat.mul_le_mul hk hd
  unfold bytesN; omega
theorem body_len {n : Nat} {ys : List Val} {b : List Int} (h : BodyB n ys b) (hl : ys.length ≤ 4096) (hs : ∀ x ∈ ys, x.s.size ≤ 1000) : b.length ≤ 5000000 := by
  rcases h with ⟨_, rfl⟩ | ⟨_, rfl⟩ | ⟨_, W, hW, rfl⟩ | ⟨_, rfl⟩
  · have := plains_len4 ys hs hl; omega
  · have := runsB_len ys.length ys hs
    rw [List.length_append, beL_len]; omega
  · have h1 := plains_len4 W (fun x hx => hs x (hW.sub hx)) (by have := hW.len; omega)
    have hlen := hW.len
    have hd : bl (W.length - 1) ≤ 64 := bl_le (by have : (2:Nat)^64 = 18446744073709551616 := by decide
                                                  omega)
    have := bytesN_le hl hd
    unfold wordsB
    rw [List.length_append, List.length_append, beL_len, leB_len]; omega
  · have := bytesN_le hl (widL_le (leastI ys) ys)
    unfold offsB
    rw [List.length_append, List.length_append, beL_len, beL_len, leB_len]; omega
theorem pw_size {X : Vc} {n : Int} {s : ByteArray} (h : PW X n s 0) : s.size ≤ 6000000 := by
  rcases h with ⟨_, _, h⟩ | ⟨_, _, _, h⟩ | ⟨hb, hl, _, b, hbody, rfl⟩
  · cases h
  · cases h
  have hg : goodB X = true := by
    unfold badW at hb
    cases hgg : goodB X
    · rw [hgg] at hb; simp at hb
    · rfl
  have hvl : (valsV X).length ≤ 4096 := Nat.le_trans (vals_le X) hl
  have h1 := body_len hbody (Nat.le_trans (List.length_filter_le _ _) hvl) (fun x hx => vals_size hg (List.mem_filter.1 hx).1)
  have h2 := nulls_len (valsV X) hvl
  rw [toB_size, List.length_append]
  unfold headB
  rw [List.length_append, List.length_append, List.length_append, beL_len, beL_len, beL_len]
  omega
theorem pw_opens {X : Vc} (hr : ∀ n ∈ X.ns, -9223372036854775808 ≤ n ∧ n ≤ 9223372036854775807) {n : Nat} (h1 : 1 ≤ n) (h4 : n ≤ 4) {s : ByteArray} (h : PW X (n : Int) s 0) : Opens s n X.k (valsV X) :=
  opens_of (by have := pw_size h; omega) (packed_col hr (by omega) h)

/-- A column that is packed: what Pack says of it. -/
def KP (X : Vc) (s : ByteArray) : Prop := PP X s 0
def zP (X : Vc) : ByteArray := zoneB (spanT (valsV X) (valsV X).length).1 (spanT (valsV X) (valsV X).length).2.1 (spanT (valsV X) (valsV X).length).2.2
theorem fold_mem {f : Val → Val → Val} (hf : ∀ m x, f m x = m ∨ f m x = x) : ∀ (ys : List Val) (m : Val), ys.foldl f m = m ∨ ys.foldl f m ∈ ys
  | [], m => .inl rfl
  | y :: ys, m => by
    rw [List.foldl_cons]
    rcases fold_mem hf ys (f m y) with h | h
    · rw [h]
      rcases hf m y with e | e
      · exact .inl e
      · exact .inr (by rw [e]; simp)
    · exact .inr (List.mem_cons_of_mem _ h)
theorem span_size {xs : List Val} (h : ∀ x ∈ xs, x.s.size ≤ 1000) : (spanT xs xs.length).1.s.size ≤ 1000 ∧ (spanT xs xs.length).2.1.s.size ≤ 1000 := by
  have key : ∀ (f : Val → Val → Val), (∀ m x, f m x = m ∨ f m x = x) → ((standL (xs.take xs.length)).foldl f .null).s.size ≤ 1000 := fun f hf => by
    rcases fold_mem hf (standL (xs.take xs.length)) .null with e | e
    · rw [e]; decide
    · rw [List.take_length] at e ⊢
      exact h _ (List.mem_filter.1 e).1
  refine ⟨key lowS (fun m x => ?_), key highS (fun m x => ?_)⟩
  · unfold lowS; split
    · exact .inr rfl
    · exact .inl rfl
  · unfold highS; split
    · exact .inr rfl
    · exact .inl rfl
theorem pp_pw {X : Vc} (hg : goodB X = true) {s : ByteArray} (h : PP X s 0) : ∃ n : Nat, 1 ≤ n ∧ n ≤ 4 ∧ PW X (n : Int) s 0 := by
  rcases h with ⟨_, h⟩ | ⟨_, h, _⟩
  · obtain ⟨⟨n, h1, h2, h3⟩, _⟩ := pb_one hg 3 s h
    exact ⟨n, h1, by omega, h3⟩
  · exact absurd rfl h
/-- What a column that From has made must be. -/
structure Fit (rows : Nat) (X : Vc) : Prop where
  good : goodB X = true
  len : X.nl.length = rows
  le : rows ≤ 4096
  ns : X.ns.length ≤ rows
  ss : X.ss.length ≤ rows
  rng : ∀ n ∈ X.ns, -9223372036854775808 ≤ n ∧ n ≤ 9223372036854775807
theorem Fit.small {rows : Nat} {X : Vc} (h : Fit rows X) : small X := by
  have := h.len; have := h.le; have := h.ns; have := h.ss
  exact ⟨by omega, by omega, by omega⟩
theorem Fit.pp {rows : Nat} {X : Vc} (h : Fit rows X) {s : ByteArray} {f : Int} (hp : PP X s f) : f = 0 := by
  rcases hp with ⟨e, _⟩ | ⟨_, hf, t, hw⟩
  · exact e
  · have hl := h.len
    have hle := h.le
    have hbad : badW X 1 = false := by unfold badW; rw [h.good]; simp
    rcases hw with ⟨e, _⟩ | ⟨_, e, _⟩ | ⟨_, _, e, _⟩
    · rw [hbad] at e; cases e
    · omega
    · exact e
theorem Fit.vlen {rows : Nat} {X : Vc} (h : Fit rows X) : (valsV X).length = rows := (vals_len h.good).trans h.len
theorem Fit.zone {rows : Nat} {X : Vc} (h : Fit rows X) : (zP X).size ≤ 10000 := by
  have hs := span_size (xs := valsV X) (fun x hx => vals_size h.good hx)
  have h2 := keyL_len [(spanT (valsV X) (valsV X).length).1, (spanT (valsV X) (valsV X).length).2.1, Val.num ((spanT (valsV X) (valsV X).length).2.2 : Nat)]
  have e : ∀ N : Int, (Val.num N).s.size = 0 := fun _ => rfl
  simp only [wides, wide, List.map_cons, List.map_nil, List.sum_cons, List.sum_nil, e] at h2
  unfold zP zoneB
  rw [toB_size]
  omega
theorem Fit.law {rows : Nat} {X : Vc} (h : Fit rows X) : ColLaw KP zP rows X := by
  have hs := span_size (xs := valsV X) (fun x hx => vals_size h.good hx)
  refine ⟨fun p W hp => ?_, fun s W hk => ?_, fun p W hp => ?_, fun s hk => ?_, h.zone⟩
  · refine (ppack_any X p W h.small hp).mono ?_
    rintro e w' ⟨s, f, rfl, hpp, hb⟩
    have := h.pp (unhide hpp)
    subst this
    exact ⟨s, rfl, unhide hpp, hb⟩
  · obtain ⟨n, h1, h4, hw⟩ := pp_pw h.good hk
    have ho := pw_opens h.rng h1 h4 hw
    exact zone_any s _ _ _ (fun W => span_any ho (by rw [h.vlen]; exact h.le) W) (by omega) (by omega) W
  · have := len_any X p W h.small hp
    rwa [h.vlen] at this
  · obtain ⟨n, h1, h4, hw⟩ := pp_pw h.good hk
    have := pw_size hw
    omega
theorem Fit.rlaw {rows : Nat} {X : Vc} (h : Fit rows X) : RLaw KP zP X := by
  have hs := span_size (xs := valsV X) (fun x hx => vals_size h.good hx)
  refine ⟨fun p W s hp hk => ?_, ⟨_, _, _, rfl, by omega, by omega, fun p W hp => ?_⟩⟩
  · refine (rpack_any X p W h.small hp).mono ?_
    rintro e w' ⟨t, g, rfl, hrp, hb⟩
    obtain ⟨rfl, rfl⟩ := same_pack (fun n hn => h.rng n hn) hk (unhide hrp)
    exact ⟨rfl, hb⟩
  · exact rspan_any X p W h.small hp rfl (fun x hx => vals_clean h.good hx) (by rw [h.vlen]; exact h.le)
end Go.Proofs.YthbfomcmjjnikaaGreat
set_option linter.unusedSimpArgs false
set_option linter.unusedVariables false
namespace Go.Proofs.YthbfomcmjjnikaaGreat
open Go.RowKit Go.Sort

theorem lg_large (x : Val) : lgV x = largeTB x := by
  have e0 : ((⟨#[]⟩ : ByteArray).size : Int) = 0 := rfl
  unfold lgV largeTB cleanV
  by_cases h1 : x.k = 1
  · simp only [h1, beq_self_eq_true, if_true, Val.num, e0]
    rfl
  · by_cases h2 : x.k = 2
    · simp [h2, Val.str]
    · have b1 : (x.k == 1) = false := by simpa using h1
      have b2 : (x.k == 2) = false := by simpa using h2
      simp only [b1, b2, Bool.false_eq_true, if_false, Val.null, e0, Bool.false_and]
      decide
theorem lo_look (rs : List (List Val)) : loM rs = (decide (4096 < (rs.length : Int)) || rs.any fun r => r.any largeTB) := by
  unfold loM
  have : (fun r : List Val => r.any lgV) = fun r => r.any largeTB := by
    funext r
    congr 1
    funext x
    exact lg_large x
  rw [this]
/-- Where the lengths are right the columns tell what is odd. -/
structure Even (kinds : List Int) (rs : List (List Val)) : Prop where
  ok : okKB kinds = true
  le : rs.length ≤ 4096
  len : ∀ r ∈ rs, r.length = kinds.length
  lg : ∀ r ∈ rs, ∀ x ∈ r, largeTB x = false
theorem Even.kind {kinds : List Int} {rs : List (List Val)} (h : Even kinds rs) {i : Nat} (hi : i < kinds.length) : kinds.getD i 0 = 1 ∨ kinds.getD i 0 = 2 := by
  have hk := h.ok
  unfold okKB at hk
  simp only [Bool.and_eq_true, Bool.not_eq_true', List.any_eq_false] at hk
  have := hk.2 kinds[i] (List.getElem_mem hi)
  have e : kinds.getD i 0 = kinds[i] := by simp [hi]
  rw [e]
  unfold noKB at this
  by_cases h1 : kinds[i] = 1
  · exact .inl h1
  · by_cases h2 : kinds[i] = 2
    · exact .inr h2
    · simp [h1, h2] at this
theorem Even.col {kinds : List Int} {rs : List (List Val)} (h : Even kinds rs) {i : Nat} (hi : i < kinds.length) :
    (colX kinds rs i).2 = if ((colL rs i).map cleanV).any (badK (kinds.getD i 0)) then 4 else 0 := by
  have hk : ¬ kindB (kinds.getD i 0) = false := by
    rcases h.kind hi with e | e <;> rw [e] <;> decide
  have hl : ¬ ((colL rs i).map cleanV).any (fun y => largeB y.s) = true := by
    rw [List.any_eq_true]
    rintro ⟨y, hy, hy2⟩
    obtain ⟨x, hx, rfl⟩ := List.mem_map.1 hy
    obtain ⟨r, hr, rfl⟩ := List.mem_map.1 hx
    have hir : i < r.length := by rw [h.len r hr]; exact hi
    have hm : r.getD i .null ∈ r := by
      have e : r.getD i Val.null = r[i] := by simp [hir]
      rw [e]; exact List.getElem_mem hir
    have := h.lg r hr _ hm
    rw [← lg_large] at this
    unfold lgV at this
    unfold largeB at hy2
    simp at this hy2
    omega
  unfold colX fromV
  rw [if_neg hk]
  split
  · rfl
  · first | rfl | rw [if_neg hl]
theorem Even.odd {kinds : List Int} {rs : List (List Val)} (h : Even kinds rs) : odM kinds rs = true ↔ ∃ i, i < kinds.length ∧ (colX kinds rs i).2 ≠ 0 := by
  unfold odM
  rw [List.any_eq_true]
  constructor
  · rintro ⟨r, hr, ho⟩
    unfold odA at ho
    have hl := h.len r hr
    rw [hl] at ho
    simp only [bne_self_eq_false, Bool.false_or] at ho
    unfold odR at ho
    rw [List.any_eq_true] at ho
    obtain ⟨i, hi, ho⟩ := ho
    rw [List.mem_range] at hi
    unfold odV at ho
    simp only [Bool.and_eq_true] at ho
    refine ⟨i, hi, ?_⟩
    rw [h.col hi, if_pos]
    · decide
    · rw [List.any_eq_true]
      exact ⟨cleanV (r.getD i .null), List.mem_map.2 ⟨_, List.mem_map.2 ⟨r, hr, rfl⟩, rfl⟩, by unfold badK; simp only [Bool.and_eq_true]; exact ho.2⟩
  · rintro ⟨i, hi, hc⟩
    rw [h.col hi] at hc
    split at hc
    · rename_i hb
      rw [List.any_eq_true] at hb
      obtain ⟨y, hy, hb⟩ := hb
      obtain ⟨x, hx, rfl⟩ := List.mem_map.1 hy
      obtain ⟨r, hr, rfl⟩ := List.mem_map.1 hx
      refine ⟨r, hr, ?_⟩
      unfold odA
      rw [Bool.or_eq_true]
      right
      unfold odR
      rw [List.any_eq_true]
      refine ⟨i, List.mem_range.2 (by rw [h.len r hr]; exact hi), ?_⟩
      unfold odV
      unfold badK at hb
      rw [decide_eq_true hi, Bool.true_and]
      exact hb
    · exact absurd rfl hc
theorem Even.four {kinds : List Int} {rs : List (List Val)} (h : Even kinds rs) {i : Nat} (hi : i < kinds.length) (hc : (colX kinds rs i).2 ≠ 0) : (colX kinds rs i).2 = 4 := by
  rw [h.col hi] at hc ⊢
  split at hc
  · rename_i hb; rw [if_pos hb]
  · exact absurd rfl hc
theorem Even.fit {kinds : List Int} {rs : List (List Val)} (h : Even kinds rs) (hr : ∀ r ∈ rs, ∀ x ∈ r, -9223372036854775808 ≤ x.n ∧ x.n ≤ 9223372036854775807) {i : Nat} (hi : i < kinds.length) (hc : (colX kinds rs i).2 = 0) : Fit rs.length (colX kinds rs i).1 := by
  have hf : fromV (kinds.getD i 0) (colL rs i) = ((colX kinds rs i).1, 0) := by
    have : fromV (kinds.getD i 0) (colL rs i) = colX kinds rs i := rfl
    rw [this, ← hc]
  obtain ⟨h1, h2, h3, h4, h5, h6, h7, h8⟩ := from_ok hf
  have hl : (colL rs i).length = rs.length := by simp [colL]
  refine ⟨h1, by omega, h.le, by omega, by omega, h8 (fun x hx => ?_)⟩
  obtain ⟨r, hr', rfl⟩ := List.mem_map.1 hx
  have hir : i < r.length := by rw [h.len r hr']; exact hi
  have e : r.getD i Val.null = r[i] := by simp [hir]
  rw [e]
  exact hr r hr' _ (List.getElem_mem hir)
end Go.Proofs.YthbfomcmjjnikaaGreat
set_option linter.unusedSimpArgs false
set_option linter.unusedVariables false
namespace Go.Proofs.YthbfomcmjjnikaaGreat
open Go.RowKit Go.Sort

/-- Build answers, and the document's Build answers the same, however much later. -/
def Alike (kinds : List Int) (ak : Option Addr) (ck : Nat) (rs : List (List Val)) (ar : Option Addr) (cr : Nat) (w : World) (e : Ending) (w' : World) : Prop :=
  ∃ (s : ByteArray) (f : Int), e = .returned (.tuple #[.string s, .int .i64 f]) ∧ Below w.heap.size w w' ∧
    ∀ W, Below w.heap.size w W → Calls Tryz.prog 6 #[.slice ak kinds.length ck, .slice ar rs.length cr] W fun e' W' => e' = .returned (.tuple #[.string s, .int .i64 f]) ∧ Below W.heap.size W W'

theorem build_both (kinds : List Int) (ak : Option Addr) (ck : Nat) (rs : List (List Val)) (ar : Option Addr) (cr : Nat) (w : World) (hl1 : kinds.length ≤ 140737488355328) (hl2 : rs.length ≤ 140737488355328) (hl3 : ∀ r ∈ rs, r.length ≤ 140737488355328)
    (hak : LisAt w ak (kinds.map (Value.int .i64))) (har : RowsAt w ar rs) (hr : ∀ r ∈ rs, ∀ x ∈ r, -9223372036854775808 ≤ x.n ∧ x.n ≤ 9223372036854775807) :
    Calls Tryz.prog 5 #[.slice ak kinds.length ck, .slice ar rs.length cr] w (Alike kinds ak ck rs ar cr w) := by
  have C := looks w kinds ak ck rs ar cr hl1 hl2 hl3 hak har
  have bad : okKB kinds = false → Calls Tryz.prog 5 #[.slice ak kinds.length ck, .slice ar rs.length cr] w (fun e w' => e = .returned (.tuple #[.string ⟨#[]⟩, .int .i64 1]) ∧ Below w.heap.size w w') → Calls Tryz.prog 5 #[.slice ak kinds.length ck, .slice ar rs.length cr] w (Alike kinds ak ck rs ar cr w) := fun hk h =>
    h.mono fun e w' ⟨he, hb⟩ => ⟨_, _, he, hb, fun W hW => rbuild_a kinds ak ck rs ar cr W hl1 (hak.later hW) hk⟩
  by_cases h1 : 1 ≤ kinds.length
  rotate_left
  · exact bad (by simp [okKB]; omega) (build_a1 w kinds ak ck rs ar cr C (by omega))
  by_cases h2 : kinds.length ≤ 32
  rotate_left
  · exact bad (by simp [okKB]; omega) (build_a2 w kinds ak ck rs ar cr C (by omega))
  cases h3 : kinds.any noKB
  rotate_left
  · exact bad (by simp only [okKB, h3, Bool.not_true, Bool.and_false]) (build_a3 w kinds ak ck rs ar cr C h1 h2 h3)
  have hok : okKB kinds = true := by simp only [okKB, h3, h1, h2, decide_true, Bool.not_false, Bool.and_self]
  have low : loM rs = true → Calls Tryz.prog 5 #[.slice ak kinds.length ck, .slice ar rs.length cr] w (fun e w' => e = .returned (.tuple #[.string ⟨#[]⟩, .int .i64 3]) ∧ Below w.heap.size w w') → Calls Tryz.prog 5 #[.slice ak kinds.length ck, .slice ar rs.length cr] w (Alike kinds ak ck rs ar cr w) := fun hk h =>
    h.mono fun e w' ⟨he, hb⟩ => ⟨_, _, he, hb, fun W hW => by
      refine (rbuild_b KP zP [] kinds ak ck rs ar cr W h1 h2 hok hl2 hl3 (hak.later hW) (har.later hW) (fun h => by rw [hk] at h; cases h)).mono ?_
      rintro e' W' ⟨he', hb'⟩
      rw [hk, if_pos rfl] at he'
      exact ⟨he', hb'⟩⟩
  by_cases h4 : rs.length ≤ 4096
  rotate_left
  · exact low (by rw [lo_look]; simp; omega) (build_b1 w kinds ak ck rs ar cr C h1 h2 h3 (by omega))
  cases h5 : rs.any fun r => r.any largeTB
  rotate_left
  · exact low (by rw [lo_look, h5, Bool.or_true]) (build_b2 w kinds ak ck rs ar cr C h1 h2 h3 h4 h5)
  have hlo : loM rs = false := by rw [lo_look, h5, Bool.or_false]; simp; omega
  have odd : odM kinds rs = true → ∀ e w', e = .returned (.tuple #[.string ⟨#[]⟩, .int .i64 4]) ∧ Below w.heap.size w w' → Alike kinds ak ck rs ar cr w e w' := fun hk e w' ⟨he, hb⟩ => ⟨_, _, he, hb, fun W hW => by
      refine (rbuild_b KP zP [] kinds ak ck rs ar cr W h1 h2 hok hl2 hl3 (hak.later hW) (har.later hW) (fun _ h => by rw [hk] at h; cases h)).mono ?_
      rintro e' W' ⟨he', hb'⟩
      rw [hlo, hk, if_neg (by decide), if_pos rfl] at he'
      exact ⟨he', hb'⟩⟩
  cases h6 : rs.any (oddB kinds.length)
  rotate_left
  · refine (build_c w kinds ak ck rs ar cr C h1 h2 h3 h4 h5 h6).mono (odd ?_)
    obtain ⟨r, hr1, hr2⟩ := List.any_eq_true.1 h6
    refine List.any_eq_true.2 ⟨r, hr1, ?_⟩
    unfold oddB at hr2
    rw [odA, hr2, Bool.true_or]
  have E : Even kinds rs := ⟨hok, h4, fun r hr1 => by
      have := List.any_eq_false.1 h6 r hr1
      simp [oddB] at this
      omega, fun r hr1 x hx => by
      have h7 := List.any_eq_false.1 h5 r hr1
      have h8 := List.any_eq_false.1 (Bool.eq_false_iff.2 h7) x hx
      exact Bool.eq_false_iff.2 h8⟩
  refine (build_d KP zP w kinds ak ck rs ar cr C hak har h1 h2 h3 h4 h5 h6 (fun i hi hc => (E.fit hr hi hc).law)).mono ?_
  rintro e w' ⟨hB, hb⟩
  rcases hB with ⟨i, hi, hc, -, he⟩ | ⟨hall, ps, he, hps⟩
  · rw [E.four hi hc] at he
    exact odd (E.odd.2 ⟨i, hi, hc⟩) e w' ⟨he, hb⟩
  · have hod : odM kinds rs = false := by
      refine Bool.eq_false_iff.2 fun h => ?_
      obtain ⟨i, hi, hc⟩ := E.odd.1 h
      exact hc (hall i hi)
    refine ⟨_, _, he, hb, fun W hW => ?_⟩
    refine (rbuild_b KP zP ps kinds ak ck rs ar cr W h1 h2 hok hl2 hl3 (hak.later hW) (har.later hW) (fun _ _ => ⟨hps, fun i hi => (E.fit hr hi (hall i hi)).rlaw⟩)).mono ?_
    rintro e' W' ⟨he', hb'⟩
    rw [hlo, hod, if_neg (by decide), if_neg (by decide)] at he'
    exact ⟨he', hb'⟩
end Go.Proofs.YthbfomcmjjnikaaGreat
set_option linter.unusedSimpArgs false
set_option linter.unusedVariables false
namespace Go.Proofs.YthbfomcmjjnikaaGreat
open Go.RowKit Go.Sort

set_option maxRecDepth 100000 in
theorem num7_any (n : Int) (w : World) : Calls Tryz.prog 7 #[.int .i64 n] w fun e w' => e = .returned (.int .i64 n) ∧ Below w.heap.size w w' := by
  go_enter Tryz.func7, Tryz.ntmps7
  go_wp2
  exact bodyPost_ret (v := .int .i64 n) (by simp [results, Tryz.results7, go_sem]) rfl ⟨rfl, Below.refl _ _⟩
set_option maxRecDepth 100000 in
theorem law_sb (kinds : List Int) (ak : Option Addr) (ck : Nat) (rs : List (List Val)) (ar : Option Addr) (cr : Nat) (w : World) (hl1 : kinds.length ≤ 140737488355328) (hl2 : rs.length ≤ 140737488355328) (hl3 : ∀ r ∈ rs, r.length ≤ 140737488355328)
    (hak : LisAt w ak (kinds.map (Value.int .i64))) (har : RowsAt w ar rs) (hr : ∀ r ∈ rs, ∀ x ∈ r, -9223372036854775808 ≤ x.n ∧ x.n ≤ 9223372036854775807) :
    Calls Tryz.prog 3 #[.slice ak kinds.length ck, .slice ar rs.length cr] w fun e w' => e = .returned (.bool true) ∧ Below w.heap.size w w' := by
  have HB := hide (build_both kinds ak ck rs ar cr w hl1 hl2 hl3 hak har hr)
  clear hak har hr hl1 hl2 hl3
  go_enter Tryz.func3, Tryz.ntmps3
  go_wp2_with (first
    | (go_at_call 5; refine (unhide HB).mono ?_; rintro _ w1 ⟨s, f, rfl, hb1, h6⟩; have H6 := hide (h6 w1 hb1); clear h6)
    | (go_at_call 6; refine (unhide H6).mono ?_; rintro _ w2 ⟨rfl, hb2⟩)
    | (go_at_call 7; refine (num7_any f _).mono ?_; rintro _ w3 ⟨rfl, hb3⟩))
  exact bodyPost_ret (v := .bool true) (by simp [results, Tryz.results3, go_sem]) rfl ⟨rfl, below_step (below_step hb1 hb2) hb3⟩
end Go.Proofs.YthbfomcmjjnikaaGreat

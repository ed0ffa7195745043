import Derived.Test.YtihkflcdphebmabPackR
import Derived.Test.YtihkflcdphebmabPackU
import Derived.Test.YtihkflcdphebmabPackN
import Derived.Test.YtihkflcdphebmabPackF
set_option linter.unusedSimpArgs false
set_option linter.unusedVariables false
namespace Go.Proofs.Ytihkflcdphebmab
open Go.RowKit Go.Sort

theorem ownB_ownV_ne {W : World} {b1 b2 : Nat} {v u : Value} {zs : List Int} {xs : List Val} (h1 : OwnB W b1 v zs) (h2 : OwnV W b2 u xs) : ∀ g, u.ownBlock = some g → v.ownBlock ≠ some g := by
  intro g hg hv
  rcases h1.2 with ⟨rfl, _⟩ | ⟨g1, _, c1, rfl, _, hh1, _⟩
  · simp [Value.ownBlock] at hv
  rcases h2.2 with ⟨rfl, _⟩ | ⟨g2, _, c2, rfl, _, hh2, _⟩
  · simp [Value.ownBlock] at hg
  simp only [Value.ownBlock, Option.some.injEq] at hg hv
  subst hg hv
  rw [hh1] at hh2
  simp at hh2
theorem OwnV.grew {w w' : World} {B : Nat} {u v v' : Value} {xs : List Val} (h : OwnV w B u xs) (hg : Grew w w' v v') (hne : ∀ g, u.ownBlock = some g → v.ownBlock ≠ some g) : OwnV w' B u xs := by
  refine World.ownsRow.kept h hg.1 ?_
  cases hu : u.ownBlock with
  | none => exact .inl rfl
  | some g => exact .inr fun e => hne g hu e.symm
theorem ownV_slice {w : World} {base : Nat} {v : Value} {xs : List Val} (h : OwnV w base v xs) : ∃ a c, v = .slice a xs.length c ∧ (∀ ad, a = some ad → ∃ b o, ad = ⟨b, o, none⟩) ∧ (a = none → xs = []) ∧ RowAt w a xs := by
  obtain ⟨a, c, e, hr⟩ := ownV_row h
  refine ⟨a, c, e, ?_, ?_, hr⟩
  · rcases h.2 with ⟨rfl, _⟩ | ⟨g, cap, cur, rfl, _⟩
    · intro ad e2; injection e with e3; subst e3; cases e2
    · intro ad e2; injection e with e3; subst e3; injection e2 with e2; exact ⟨_, _, e2.symm⟩
  · rintro rfl
    rcases h.2 with ⟨rfl, h0⟩ | ⟨g, cap, cur, rfl, _⟩
    · exact List.eq_nil_of_length_eq_zero h0
    · injection e with e3; cases e3
/-- The numbers that are laid so far. -/
def numF (ns : List Nat) (k : Nat) (j : Nat) : Value := .int .u64 (if j < k then ((ns[j]?).getD 0 : Nat) else 0 : Int)
theorem numF_next {ns : List Nat} {k b : Nat} (h : ns[k]? = some b) (j : Nat) : numF ns (k + 1) j = if j = k then .int .u64 (b : Int) else numF ns k j := by
  unfold numF
  by_cases hj : j = k
  · subst hj; simp [h]
  · rw [if_neg hj]
    by_cases hlt : j < k
    · rw [if_pos hlt, if_pos (by omega)]
    · rw [if_neg hlt, if_neg (by omega)]
theorem numF_lis {w : World} {g t : Nat} {ns : List Nat} (h : w.rowIs g t ns.length (numF ns ns.length)) : LisAt w (some ⟨g, 0, none⟩) (ns.map fun n : Nat => Value.int .u64 (n : Int)) := by
  refine lis_of_row h (by simp) fun i y hi hy => ?_
  rw [List.getElem?_map] at hy
  obtain ⟨m, hm, rfl⟩ := Option.map_eq_some_iff.1 hy
  simp only [numF, if_pos hi, hm, Option.getD_some]
theorem bl_lt (n : Nat) : n < 2 ^ bl n := by
  unfold bl
  split
  · omega
  · exact Nat.lt_log2_self
theorem bl_le {n k : Nat} (h : n < 2 ^ k) : bl n ≤ k := by
  unfold bl
  split
  · omega
  · have := (Nat.log2_lt (by assumption)).2 h
    omega
/-- Where a value is among the words. -/
theorem vpos_any (aa : Option Addr) (ca : Nat) (W : List Val) (t : Val) (w : World) (hl : W.length ≤ 1048576) (ha : RowAt w aa W) (hr : Rises W) :
    Calls Try.prog 79 #[.slice aa W.length ca, t.v, .func (.func 68) #[] #[]] w fun e w' => (∃ f : Bool, e = .returned (.tuple #[.int .i64 (posN W t : Int), .bool f])) ∧ Below w.heap.size w w' :=
  (vsearch_any aa ca W t w hl ha (hr.mono t)).mono fun e w' ⟨⟨k, f, he, hk, h1, h2⟩, hb⟩ => ⟨⟨f, by rw [posN_eq hk h1 h2]; exact he⟩, hb⟩
/-- The words' bytes, and where among them each value is. -/
def wordsB (W xs : List Val) : List Int := (beL (W.length : Int) 2 2 ++ plains W) ++ leB (total (bl (W.length - 1)) (xs.map (posN W))) (bytesN xs.length (bl (W.length - 1)))
/-- The words of values. -/
def WordsOf (xs W : List Val) : Prop := ∃ S, S.Perm xs ∧ Rises S ∧ W = compL S
theorem WordsOf.len {xs W : List Val} (h : WordsOf xs W) : W.length ≤ xs.length := by
  obtain ⟨S, hp, _, rfl⟩ := h
  rw [← hp.length_eq]
  exact compL_len S
theorem WordsOf.rises {xs W : List Val} (h : WordsOf xs W) : Rises W := by
  obtain ⟨S, _, hr, rfl⟩ := h
  exact compL_rises hr
theorem WordsOf.mem {xs W : List Val} (h : WordsOf xs W) {x : Val} (hx : x ∈ xs) : x ∈ W := by
  obtain ⟨S, hp, _, rfl⟩ := h
  exact compL_mem (hp.mem_iff.2 hx)
theorem WordsOf.sub {xs W : List Val} (h : WordsOf xs W) {x : Val} (hx : x ∈ W) : x ∈ xs := by
  obtain ⟨S, hp, _, rfl⟩ := h
  exact hp.mem_iff.1 ((compL_sub S).mem hx)
theorem plains_len4 (W : List Val) (hs : ∀ x ∈ W, x.s.size ≤ 1000) (hl : W.length ≤ 4096) : (plains W).length ≤ 4128768 := by
  have := plains_len W hs
  omega

end Go.Proofs.Ytihkflcdphebmab

import Derived.Test.YthbfomcmjjnikaaGreatSgA
import Derived.Test.YthbfomcmjjnikaaGreatSgK
import Derived.Test.YthbfomcmjjnikaaGreatPackH
import Derived.Lib.SlBytesConst
import Derived.ArgAppend
set_option linter.unusedSimpArgs false
set_option linter.unusedVariables false
namespace Go.Proofs.YthbfomcmjjnikaaGreat
open Go.RowKit Go.Sort

set_option maxRecDepth 100000 in
set_option maxHeartbeats 1000000 in
theorem sapp_any (base : Nat) (zs : List Int) (U : Int) (n : Nat) (v : Value) (w : World) (hn : n ≤ 8) (hown : OwnB w base v zs) (hlen : zs.length ≤ 140737488300000) (hbase : base ≤ w.heap.size) :
    Calls Tryz.prog 55 #[v, .int .u64 U, .int .i64 n] w fun e w' => ∃ v', e = .returned v' ∧ OwnB w' base v' (zs ++ beL U n n) ∧ Grew w w' v v' := by
  obtain ⟨i0, hi, hz0, hz1, hz2⟩ := info_parts Tryz.info5
  go_enter Tryz.func55, Tryz.ntmps55
  go_wp2_with fail
  go_loopw [0, 9] (fun key s wr => ∃ k : Nat, k ≤ n ∧ s = .int .i64 (k : Int) ∧ OwnB wr base key (zs ++ beL U n k) ∧ Grew w wr v key) (fun _ s _ => n - (intOf s).toNat)
  case atStart => exact ⟨0, Nat.zero_le _, rfl, by simpa [beL] using hown, Grew.refl _ _⟩
  case round =>
    obtain ⟨k, hk, rfl, ho, hg⟩ := hrel
    by_cases h8 : k < n
    · have h9 : (k : Int) < (n : Int) := by omega
      have hl : (zs ++ beL U n k).length = zs.length + k := by rw [List.length_append, beL_len]
      have HL := hide hl
      have es : ((n : Int) - 1 - (k : Int)) = ((n - 1 - k : Nat) : Int) := by omega
      have h10 : (0 : Int) ≤ 8 * ((n : Int) - 1 - (k : Int)) := by omega
      have h11 : (8 * ((n : Int) - 1 - (k : Int))).toNat = 8 * (n - 1 - k) := by omega
      clear hl
      go_wp2_with (at_builtin; refine wpList_append_own_at _ rfl (.tmp 12) (.tmp 21) 71 rfl base 5 i0 (.int .u8 0) 1 1 Tryz.underlying71 hi hz0 hz1 hz2 rfl (by decide) _ _ _ rfl (World.ownsRow.alloc ho _) ⟨wr.heap.size, 0, none⟩ 1 1 [.int .u8 (beN U n k)] rfl rfl (cell_one_new _ _ _) (by intro u hu; simp at hu; subst hu; rfl) (by rw [unhide HL]; unfold maxLen; omega) (by rw [unhide HL]; omega) (by have := hg.1.size; simp; omega) ?_; intro v' w1 hown' hgrow _ hat)
      have hg2 := Grew.app hg hgrow hat
      have ho2 := ownB_app (news := [beN U n k]) rfl hown'
      rw [List.append_assoc, ← beL_succ] at ho2
      refine ⟨⟨k + 1, by omega, by go_num, ho2, hg2⟩, ?_⟩
      simp only [intOf]
      omega
    · have hk8 : k = n := by omega
      have h9 : ¬ (k : Int) < (n : Int) := by omega
      subst hk8
      go_wp2
      go_ret
      exact ⟨_, rfl, ho, hg⟩

/-- A text, and its checksum behind it. -/
def sealB (s : ByteArray) : ByteArray := s ++ toB (beL (sumB s : Nat) 4 4)
set_option maxRecDepth 100000 in
set_option maxHeartbeats 1000000 in
theorem sealed_any (s : ByteArray) (hs : s.size ≤ 140737488300000) (w : World) : Calls Tryz.prog 59 #[.string s] w fun e w' => e = .returned (.string (sealB s)) ∧ Below w.heap.size w w' := by
  have hw : IntKind.u64.wrap ((sumB s : Nat) : Int) = ((sumB s : Nat) : Int) := by rw [IntKind.wrap_u64, Int.emod_eq_of_lt (by omega) (by have := sumB_small s; omega)]
  have HK : Hid (∀ W, Below w.heap.size w W → Calls Tryz.prog 55 #[.slice none 0 0, .int .u64 ((sumB s : Nat) : Int), .int .i64 4] W fun e w' => ∃ v', e = .returned v' ∧ Hid ((convert 71 9 v').run Tryz.prog w' = .ok (.string (toB (beL (sumB s : Nat) 4 4))) w') ∧ Below w.heap.size w w') := fun W hW => by
    refine (sapp_any W.heap.size [] ((sumB s : Nat) : Int) 4 (.slice none 0 0) W (by omega) (World.ownsRow_nil _ _ _ _) (by simp) (Nat.le_refl _)).mono ?_
    rintro e w' ⟨v', rfl, ho, hg⟩
    exact ⟨v', rfl, convert_own ho, hW.trans ((hg.below (Nat.le_refl _) (fun g hh => by cases hh)).mono hW.size)⟩
  have hz : ¬ 9223372036854775807 < s.size + (toB (beL ((sumB s : Nat) : Int) 4 4)).size := by rw [toB_size, beL_len]; omega
  go_enter Tryz.func59, Tryz.ntmps59
  go_wp2_with (first | (go_at_call 80; refine (check_any s (by omega) _).mono ?_; rintro _ w1 ⟨rfl, hb1⟩) | (go_at_call 55; refine (unhide HK _ hb1).mono ?_; rintro _ w2 ⟨v', rfl, hc2, hb2⟩; have hc2' := unhide hc2))
  go_ret
  exact ⟨rfl, hb2⟩
end Go.Proofs.YthbfomcmjjnikaaGreat
set_option linter.unusedSimpArgs false
set_option linter.unusedVariables false
namespace Go.Proofs.YthbfomcmjjnikaaGreat
open Go.RowKit Go.Sort

/-- What Span answers of a packed column, wherever. -/
def SpanIs (s : ByteArray) (L G : Val) (N : Nat) : Prop := ∀ W, Calls Tryz.prog 78 #[.string s] W fun e w' => e = .returned (.tuple #[L.v, G.v, .int .i64 (N : Int), .int .i64 0]) ∧ Below W.heap.size W w'
/-- A zone: the least, the greatest, how many nulls. -/
def zoneB (L G : Val) (N : Nat) : ByteArray := toB (keyL [L, G, Val.num (N : Int)])

theorem three_row (w : World) (L G : Val) (N : Int) : RowAt (w.alloc (.cells #[.int .i64 L.k, .int .i64 L.n, .string L.s, .int .i64 G.k, .int .i64 G.n, .string G.s, .int .i64 1, .int .i64 N, .string ⟨#[]⟩] 59)) (some ⟨w.heap.size, 0, none⟩) [L, G, Val.num N] := by
  refine .inr ⟨_, _, rfl, fun i x hx => ?_⟩
  match i, hx with
  | 0, hx => simp at hx; subst hx; exact ⟨by simp [go_sem], by simp [go_sem], by simp [go_sem]⟩
  | 1, hx => simp at hx; subst hx; exact ⟨by simp [go_sem], by simp [go_sem], by simp [go_sem]⟩
  | 2, hx => simp at hx; subst hx; exact ⟨by simp [go_sem, Val.num], by simp [go_sem, Val.num], by simp [go_sem, Val.num]⟩
  | i + 3, hx => simp at hx
theorem three_wide {L G : Val} (N : Int) (hL : L.s.size ≤ 1000000) (hG : G.s.size ≤ 1000000) : wides [L, G, Val.num N] ≤ 140737488300000 := by
  have e : (Val.num N).s.size = 0 := rfl
  simp only [wides, wide, List.map_cons, List.map_nil, List.sum_cons, List.sum_nil, e]
  omega

set_option maxRecDepth 100000 in
set_option maxHeartbeats 1000000 in
theorem zone_any (s : ByteArray) (L G : Val) (N : Nat) (h : SpanIs s L G N) (hL : L.s.size ≤ 1000000) (hG : G.s.size ≤ 1000000) (w : World) :
    Calls Tryz.prog 58 #[.string s] w fun e w' => e = .returned (.string (zoneB L G N)) ∧ Below w.heap.size w w' := by
  have H := hide h
  clear h
  have HK : Hid (∀ W0 : World, Calls Tryz.prog 79 #[.slice (some ⟨W0.heap.size + 1 + 1, 0, none⟩) 3 3] (((W0.alloc (.cells #[.int .i64 L.k, .int .i64 L.n, .string L.s] 59)).alloc (.cells #[.int .i64 G.k, .int .i64 G.n, .string G.s] 59)).alloc (.cells #[.int .i64 L.k, .int .i64 L.n, .string L.s, .int .i64 G.k, .int .i64 G.n, .string G.s, .int .i64 1, .int .i64 (N : Int), .string ⟨#[]⟩] 59)) fun e w' => e = .returned (.string (zoneB L G N)) ∧ Below W0.heap.size W0 w') := fun W0 => by
    have hb : Below W0.heap.size W0 ((W0.alloc (.cells #[.int .i64 L.k, .int .i64 L.n, .string L.s] 59)).alloc (.cells #[.int .i64 G.k, .int .i64 G.n, .string G.s] 59)) := below_alloc (below_alloc (Below.refl _ _) _) _
    have hz : ((W0.alloc (.cells #[.int .i64 L.k, .int .i64 L.n, .string L.s] 59)).alloc (.cells #[.int .i64 G.k, .int .i64 G.n, .string G.s] 59)).heap.size = W0.heap.size + 1 + 1 := by simp
    have hr := three_row ((W0.alloc (.cells #[.int .i64 L.k, .int .i64 L.n, .string L.s] 59)).alloc (.cells #[.int .i64 G.k, .int .i64 G.n, .string G.s] 59)) L G (N : Int)
    rw [hz] at hr
    refine (key_any (some ⟨W0.heap.size + 1 + 1, 0, none⟩) 3 [L, G, Val.num (N : Int)] _ (by unfold maxLen; simp) (three_wide _ hL hG) hr).mono ?_
    rintro e w' ⟨rfl, hw⟩
    exact ⟨rfl, (below_alloc hb _).trans (hw.mono (by simp; omega))⟩
  go_enter Tryz.func58, Tryz.ntmps58
  go_wp2_with (first | (go_at_call 78; refine (unhide H _).mono ?_; rintro _ w1 ⟨rfl, hb1⟩; rw [L.open_, G.open_]) | (go_at_call 79; refine (unhide HK w1).mono ?_; rintro _ w2 ⟨rfl, hb2⟩))
  go_ret
  exact ⟨rfl, hb1.trans (hb2.mono hb1.size)⟩
end Go.Proofs.YthbfomcmjjnikaaGreat
set_option linter.unusedSimpArgs false
set_option linter.unusedVariables false
namespace Go.Proofs.YthbfomcmjjnikaaGreat
open Go.RowKit Go.Sort

/-- A slice of columns, as it lies in memory. -/
def ColAt (w : World) (b o : Nat) (X : Vc) (p : Sl) : Prop :=
  w.cell? ⟨b, o, none⟩ = some (.int .i64 X.k) ∧ w.cell? ⟨b, o + 1, none⟩ = some (.slice p.a1 X.nl.length p.c1) ∧ w.cell? ⟨b, o + 2, none⟩ = some (.slice p.a2 X.ns.length p.c2) ∧ w.cell? ⟨b, o + 3, none⟩ = some (.slice p.a3 X.ss.length p.c3)
def ColsAt (w : World) (a : Option Addr) (Cs : List (Vc × Sl)) : Prop :=
  (Cs = [] ∨ ∃ b off, a = some ⟨b, off, none⟩ ∧ ∀ i c, Cs[i]? = some c → ColAt w b (off + i * 4) c.1 c.2) ∧ ∀ c ∈ Cs, VecAt w c.1 c.2
theorem ColAt.later {w w' : World} {b o : Nat} {X : Vc} {p : Sl} (h : ColAt w b o X p) (hb : Below w.heap.size w w') : ColAt w' b o X p :=
  ⟨cell_later hb h.1, cell_later hb h.2.1, cell_later hb h.2.2.1, cell_later hb h.2.2.2⟩
theorem ColsAt.later {w w' : World} {a : Option Addr} {Cs : List (Vc × Sl)} (h : ColsAt w a Cs) (hb : Below w.heap.size w w') : ColsAt w' a Cs := by
  refine ⟨?_, fun c hc => (h.2 c hc).later hb⟩
  rcases h.1 with e | ⟨b, off, ha, h1⟩
  · exact .inl e
  · exact .inr ⟨b, off, ha, fun i c hc => (h1 i c hc).later hb⟩

/-- Two lists of bytes of the call's own. -/
structure HB (w0 w : World) (hv bv : Value) (hs bs : List Int) : Prop where
  h : OwnB w w0.heap.size hv hs
  b : OwnB w w0.heap.size bv bs
  ne : ∀ g, bv.ownBlock = some g → hv.ownBlock ≠ some g
  bel : Below w0.heap.size w0 w
theorem HB.later {w0 w w' : World} {hv bv : Value} {hs bs : List Int} (h : HB w0 w hv bv hs bs) (hb : Below w.heap.size w w') : HB w0 w' hv bv hs bs :=
  ⟨h.h.grew (Grew.of_below hb (.slice none 0 0)) (fun g _ e => by cases e), h.b.grew (Grew.of_below hb (.slice none 0 0)) (fun g _ e => by cases e), h.ne, h.bel.trans (hb.mono h.bel.size)⟩
theorem HB.head {w0 w w' : World} {hv bv hv' : Value} {hs bs hs' : List Int} (h : HB w0 w hv bv hs bs) (ho : OwnB w' w0.heap.size hv' hs') (hg : Grew w w' hv hv') : HB w0 w' hv' bv hs' bs := by
  refine ⟨ho, h.b.grew hg h.ne, fun g hb e => ?_, h.bel.trans (hg.below h.bel.size (fun g hh => (ownB_lt h.h hh).1))⟩
  rcases hg.2 with e' | ⟨g', e', hl⟩
  · exact h.ne g hb (e' ▸ e)
  · rw [e'] at e; cases e
    have := (ownB_lt h.b hb).2
    omega
theorem HB.body {w0 w w' : World} {hv bv bv' : Value} {hs bs bs' : List Int} (h : HB w0 w hv bv hs bs) (ho : OwnB w' w0.heap.size bv' bs') (hg : Grew w w' bv bv') : HB w0 w' hv bv' hs bs' := by
  refine ⟨h.h.grew hg (fun g hh e => h.ne g e hh), ho, fun g hb e => ?_, h.bel.trans (hg.below h.bel.size (fun g hh => (ownB_lt h.b hh).1))⟩
  rcases hg.2 with e' | ⟨g', e', hl⟩
  · exact h.ne g (e' ▸ hb) e
  · rw [e'] at hb; cases hb
    have := (ownB_lt h.h e).2
    omega

/-- Append a text to a list of bytes of the call's own. -/
theorem wpList_append_txt {w : World} {ops : Array Oper} {rest : List Oper} {o : Oper} {a : Act} {Q : Exit → Act → World → Prop} (hgd : o.guard = none) (sl x : Operand)
    (ho : o.op = .call { callee := .builtin .append, args := #[sl, x], argTypes := #[71, 9] }) (base : Nat) (v : Value) (zs : List Int) (s : ByteArray) (hs : a.eval sl = v) (hx : a.eval x = .string s)
    (hown : OwnB w base v zs) (hlen : zs.length + s.size ≤ 140737488355328) (hbase : base ≤ w.heap.size)
    (h : ∀ v' w', OwnB w' base v' (zs ++ txt s) → Grew w w' v v' → wpList Tryz.prog ops Q rest (a.put o.dst v') w') : wpList Tryz.prog ops Q (o :: rest) a w := by
  obtain ⟨i0, hi, hz0, hz1, hz2⟩ := info_parts Tryz.info5
  refine wpList_plain hgd fun K hK => wp_append_str sl x ho base i0 hi hz0 hz1 hz2 v _ _ hs hown s hx hlen hbase fun v' w' h1 h2 hat => hK _ _ (h v' w' ?_ ⟨h2, ?_⟩)
  · rw [← txt_cells] at h1
    exact ownB_app (txt_len s) h1
  · rcases hat with e | e
    · exact .inl e
    · exact .inr ⟨_, e, Nat.le_refl _⟩

def hd1 (p : ByteArray × ByteArray) : List Int := beL (p.1.size : Nat) 2 2 ++ (txt p.1 ++ beL (p.2.size : Nat) 4 4)
def hdL (ps : List (ByteArray × ByteArray)) : List Int := ps.flatMap hd1
def bdL (ps : List (ByteArray × ByteArray)) : List Int := ps.flatMap fun p => txt p.2
def frontL (n rows : Nat) : List Int := [83, 49] ++ (beL (n : Int) 1 1 ++ beL (rows : Int) 4 4)
def segB (n rows : Nat) (ps : List (ByteArray × ByteArray)) : ByteArray := sealB (toB ((frontL n rows ++ hdL ps) ++ bdL ps))
theorem hdL_snoc (ps : List (ByteArray × ByteArray)) (p : ByteArray × ByteArray) : hdL (ps ++ [p]) = hdL ps ++ hd1 p := by simp [hdL]
theorem bdL_snoc (ps : List (ByteArray × ByteArray)) (p : ByteArray × ByteArray) : bdL (ps ++ [p]) = bdL ps ++ txt p.2 := by simp [bdL]
theorem hdL_len {ps : List (ByteArray × ByteArray)} (h : ∀ p ∈ ps, p.1.size ≤ 10000) : (hdL ps).length ≤ ps.length * 10010 := by
  induction ps with
  | nil => simp [hdL]
  | cons p ps ih =>
    have h1 := h p (by simp)
    have h2 := ih (fun q hq => h q (by simp [hq]))
    simp only [hdL, List.flatMap_cons, List.length_append, hd1, beL_len, txt_len, List.length_cons] at h2 ⊢
    omega
theorem bdL_len {ps : List (ByteArray × ByteArray)} (h : ∀ p ∈ ps, p.2.size ≤ 100000000) : (bdL ps).length ≤ ps.length * 100000000 := by
  induction ps with
  | nil => simp [bdL]
  | cons p ps ih =>
    have h1 := h p (by simp)
    have h2 := ih (fun q hq => h q (by simp [hq]))
    simp only [bdL, List.flatMap_cons, List.length_append, txt_len, List.length_cons] at h2 ⊢
    omega

/-- What the columns are packed to: the zone and the bytes of each. -/
structure Ps (K : Vc → ByteArray → Prop) (zf : Vc → ByteArray) (Cs : List (Vc × Sl)) (ps : List (ByteArray × ByteArray)) : Prop where
  len : ps.length = Cs.length
  at_ : ∀ (i : Nat) (c : Vc × Sl) (p : ByteArray × ByteArray), Cs[i]? = some c → ps[i]? = some p → p.1 = zf c.1 ∧ K c.1 p.2
  z : ∀ p ∈ ps, p.1.size ≤ 10000
  s : ∀ p ∈ ps, p.2.size ≤ 100000000
theorem Ps.nil (K : Vc → ByteArray → Prop) (zf : Vc → ByteArray) : Ps K zf [] [] := ⟨rfl, fun i c p h => by simp at h, fun p h => by simp at h, fun p h => by simp at h⟩
theorem Ps.snoc {K : Vc → ByteArray → Prop} {zf : Vc → ByteArray} {Cs : List (Vc × Sl)} {ps : List (ByteArray × ByteArray)} {k : Nat} {c : Vc × Sl} {s : ByteArray} (h : Ps K zf (Cs.take k) ps) (hc : Cs[k]? = some c) (hk : K c.1 s) (hz : (zf c.1).size ≤ 10000) (hs : s.size ≤ 100000000) :
    Ps K zf (Cs.take (k + 1)) (ps ++ [(zf c.1, s)]) := by
  obtain ⟨hlt, rfl⟩ := List.getElem?_eq_some_iff.1 hc
  have hl : (Cs.take k).length = k := by simp; omega
  have hpl : ps.length = k := h.len.trans hl
  rw [List.take_succ_eq_append_getElem hlt]
  refine ⟨by simp [h.len]; omega, fun i c p h1 h2 => ?_, fun p hp => ?_, fun p hp => ?_⟩
  · by_cases hi : i < k
    · rw [List.getElem?_append_left (by omega)] at h1
      rw [List.getElem?_append_left (by omega)] at h2
      exact h.at_ i c p h1 h2
    · have e : i = k := by
        have := (List.getElem?_eq_some_iff.1 h1).1
        simp at this
        omega
      subst e
      rw [List.getElem?_append_right (by omega), hl] at h1
      rw [List.getElem?_append_right (by omega), hpl] at h2
      simp at h1 h2
      subst h1 h2
      exact ⟨rfl, hk⟩
  · rcases List.mem_append.1 hp with g | g
    · exact h.z p g
    · simp at g; subst g; exact hz
  · rcases List.mem_append.1 hp with g | g
    · exact h.s p g
    · simp at g; subst g; exact hs
end Go.Proofs.YthbfomcmjjnikaaGreat
set_option linter.unusedSimpArgs false
set_option linter.unusedVariables false
namespace Go.Proofs.YthbfomcmjjnikaaGreat
open Go.RowKit Go.Sort

/-- What the columns answer: packed, told of, and how long they are. -/
structure ColLaw (K : Vc → ByteArray → Prop) (zf : Vc → ByteArray) (rows : Nat) (X : Vc) : Prop where
  pk : ∀ p W, VecAt W X p → Calls Tryz.prog 57 #[vecV X p] W fun e w' => ∃ s, e = .returned (.tuple #[.string s, .int .i64 0]) ∧ Hid (K X s) ∧ Below W.heap.size W w'
  zo : ∀ s W, K X s → Calls Tryz.prog 58 #[.string s] W fun e w' => e = .returned (.string (zf X)) ∧ Below W.heap.size W w'
  ln : ∀ p W, VecAt W X p → Calls Tryz.prog 56 #[vecV X p] W fun e w' => e = .returned (.int .i64 (rows : Int)) ∧ Below W.heap.size W w'
  sz : ∀ s, K X s → s.size ≤ 100000000
  zz : (zf X).size ≤ 10000

theorem ownB_less {w : World} {b b' : Nat} {v : Value} {zs : List Int} (hb : b' ≤ b) (h : w.ownsRow b 5 1 v zs.length (zs.map (Value.int .u8))) : OwnB w b' v zs := by
  refine ⟨h.1, ?_⟩
  rcases h.2 with h | ⟨g, cap, cur, hv, hg, rest⟩
  · exact .inl h
  · exact .inr ⟨g, cap, cur, hv, Nat.le_trans hb hg, rest⟩
set_option maxRecDepth 100000 in
set_option maxHeartbeats 1000000 in
theorem front_num (g : Nat) (U : Int) (w : World) (h0 : w.cell? ⟨g, 0, none⟩ = some (.int .u8 83)) (h1 : w.cell? ⟨g, 1, none⟩ = some (.int .u8 49)) :
    Calls Tryz.prog 55 #[.slice (some ⟨g, 0, none⟩) 2 2, .int .u64 U, .int .i64 1] w fun e w' => ∃ v', e = .returned v' ∧ OwnB w' w.heap.size v' ([83, 49] ++ beL U 1 1) ∧ Below w.heap.size w w' := by
  obtain ⟨i0, hi, hz0, hz1, hz2⟩ := info_parts Tryz.info5
  have lg : g < w.heap.size := World.block_lt_of_cell? _ _ h0
  go_enter Tryz.func55, Tryz.ntmps55
  go_wp2_with fail
  go_loopw [0, 9] (fun key s wr => (s = .int .i64 0 ∧ key = .slice (some ⟨g, 0, none⟩) 2 2 ∧ wr = w) ∨ (s = .int .i64 1 ∧ OwnB wr w.heap.size key ([83, 49] ++ beL U 1 1) ∧ Below w.heap.size w wr)) (fun _ s _ => 1 - (intOf s).toNat)
  case atStart => exact .inl ⟨rfl, rfl, rfl⟩
  case round =>
    rcases hrel with ⟨rfl, rfl, rfl⟩ | ⟨rfl, ho, hb⟩
    · have hA : ∀ j u, [Value.int .u8 83, .int .u8 49][j]? = some u → (wr.alloc (.cells #[.int .u8 (U % 256)] 5)).cell? ((⟨g, 0, none⟩ : Addr).add j) = some u := by
        intro j u hu
        match j, hu with
        | 0, hu => simp at hu; subst hu; exact cell_later (below_alloc (Below.refl _ _) _) h0
        | 1, hu => simp at hu; subst hu; exact cell_later (below_alloc (Below.refl _ _) _) h1
        | j + 2, hu => simp at hu
      go_wp2_with (at_builtin; refine wpList_append_grows _ rfl (.tmp 12) (.tmp 21) 71 rfl 5 i0 (.int .u8 0) 1 1 Tryz.underlying71 hi hz0 hz1 hz2 rfl (by decide) (some ⟨g, 0, none⟩) 2 2 [.int .u8 83, .int .u8 49] rfl (fun e => by cases e) rfl (fun b e => by cases e; exact hA) ⟨wr.heap.size, 0, none⟩ 1 1 [.int .u8 (U % 256)] rfl rfl (cell_one_new _ _ _) (by intro u hu; simp at hu; subst hu; rfl) (by decide) (by unfold maxLen; decide) (by decide) ?_; intro v' w1 hown' hgrow)
      have e1 : beL U 1 1 = [U % 256] := by simp [beL, beN]
      have ho : OwnB w1 wr.heap.size v' ([83, 49] ++ beL U 1 1) := by
        rw [e1]
        refine ownB_less ?_ hown'
        simp
      have hb : Below wr.heap.size wr w1 := (below_alloc (Below.refl _ _) _).grown hgrow (by simp) (fun k e => by cases e)
      exact ⟨.inr ⟨rfl, ho, hb⟩, by simp [intOf]⟩
    · go_wp2
      go_ret
      exact ⟨_, rfl, ho, hb⟩
theorem HB.start {w w1 w2 : World} {v : Value} {hs : List Int} (hb1 : Below w.heap.size w w1) (ho : OwnB w2 w1.heap.size v hs) (hb2 : Below w1.heap.size w1 w2) : HB w w2 v (.slice none 0 0) hs [] := by
  exact ⟨ownB_less hb1.size ho, World.ownsRow_nil _ _ _ _, fun g h => (by cases h), hb1.trans (hb2.mono hb1.size)⟩
/-- seg.appendNumber upon the head. -/
theorem HB.num {w0 w : World} {hv bv : Value} {hs bs : List Int} (h : HB w0 w hv bv hs bs) (U : Int) (n : Nat) (hn : n ≤ 8) (hl : hs.length ≤ 1000000) :
    Calls Tryz.prog 55 #[hv, .int .u64 U, .int .i64 (n : Int)] w fun e w' => ∃ v', e = .returned v' ∧ Hid (HB w0 w' v' bv (hs ++ beL U n n) bs) :=
  (sapp_any w0.heap.size hs U n hv w hn h.h (by omega) h.bel.size).mono fun e w' ⟨v', he, ho, hg⟩ => ⟨v', he, h.head ho hg⟩

set_option maxRecDepth 100000 in
set_option maxHeartbeats 4000000 in
theorem swritten_any (K : Vc → ByteArray → Prop) (zf : Vc → ByteArray) (rows : Nat) (hr : rows ≤ 4096) (a : Option Addr) (c : Nat) (Cs : List (Vc × Sl)) (w : World) (hn : 1 ≤ Cs.length) (hn2 : Cs.length ≤ 32) (hC : ∀ x ∈ Cs, ColLaw K zf rows x.1) (ha : ColsAt w a Cs) :
    Calls Tryz.prog 29 #[.slice a Cs.length c] w fun e w' => ∃ ps, e = .returned (.string (segB Cs.length rows ps)) ∧ Hid (Ps K zf Cs ps) ∧ Below w.heap.size w w' := by
  obtain ⟨b, off, rfl, hcol⟩ : ∃ b off, a = some ⟨b, off, none⟩ ∧ ∀ i c, Cs[i]? = some c → ColAt w b (off + i * 4) c.1 c.2 := by
    rcases ha.1 with e | h
    · subst e; simp at hn
    · exact h
  have hvec := ha.2
  have c0 := List.getElem?_eq_getElem (l := Cs) (i := 0) (by omega)
  generalize Cs[0] = x0 at c0
  have HL0 := hide ((hC x0 (List.mem_of_getElem? c0)).ln x0.2)
  have hV0 := hvec x0 (List.mem_of_getElem? c0)
  obtain ⟨q0, q1, q2, q3⟩ := hcol 0 x0 c0
  simp only [Nat.zero_mul, Nat.add_zero] at q0 q1 q2 q3
  have lb : b < w.heap.size := World.block_lt_of_cell? _ _ q0
  have HCOL := hide hcol
  have HVEC := hide hvec
  have HC := hide hC
  clear hcol hvec hC ha c0
  have hcv := Lib.run_convert_bytes_const (P := Tryz.prog) w 71 5 #[.int .u8 83, .int .u8 49] 2 2 Tryz.underlying71 Tryz.underlying5
  have H1 : Hid (Calls Tryz.prog 55 #[.slice (some ⟨w.heap.size, 0, none⟩) 2 2, .int .u64 (Cs.length : Int), .int .i64 1] (w.alloc (.cells #[.int .u8 83, .int .u8 49] 5 (2, 3))) fun e w' => ∃ v', e = .returned v' ∧ Hid (HB w w' v' (.slice none 0 0) ([83, 49] ++ beL (Cs.length : Int) 1 1) [])) := by
    refine (front_num w.heap.size (Cs.length : Int) (w.alloc (.cells #[.int .u8 83, .int .u8 49] 5 (2, 3))) (by rw [cell_of_row _ _ 0 _ 5 (2, 3) (heap_alloc_last w _)]; rfl) (by rw [cell_of_row _ _ 1 _ 5 (2, 3) (heap_alloc_last w _)]; rfl)).mono ?_
    rintro e w' ⟨v', he, ho, hb⟩
    exact ⟨v', he, HB.start (below_alloc (Below.refl _ _) _) ho hb⟩
  have H2 : Hid (∀ W v', Hid (HB w W v' (.slice none 0 0) ([83, 49] ++ beL (Cs.length : Int) 1 1) []) → Calls Tryz.prog 55 #[v', .int .u64 (rows : Int), .int .i64 4] W fun e w' => ∃ v', e = .returned v' ∧ Hid (HB w w' v' (.slice none 0 0) (frontL Cs.length rows) [])) := fun W v' h => by
    have := (unhide h).num (rows : Int) 4 (by omega) (by simp [beL_len])
    rwa [List.append_assoc] at this
  have hwn : IntKind.u64.wrap (Cs.length : Int) = (Cs.length : Int) := by rw [IntKind.wrap_u64, Int.emod_eq_of_lt (by omega) (by omega)]
  have hwr : IntKind.u64.wrap (rows : Int) = (rows : Int) := by rw [IntKind.wrap_u64, Int.emod_eq_of_lt (by omega) (by omega)]
  have hlt : (0 : Int) < (Cs.length : Int) := by omega
  go_enter Tryz.func29, Tryz.ntmps29
  go_wp2_with (first | (go_at_call_of 55 (Value.int IntKind.u64 (Cs.length : Int)); refine (unhide H1).mono ?_; rintro _ w1 ⟨v1, rfl, hb1⟩; have r1 := cell_later (unhide hb1).bel q0; have r2 := cell_later (unhide hb1).bel q1; have r3 := cell_later (unhide hb1).bel q2; have r4 := cell_later (unhide hb1).bel q3) | (go_at_call 56; refine (unhide HL0 _ (hV0.later (unhide hb1).bel)).mono ?_; rintro _ w2 ⟨rfl, hb2⟩) | (go_at_call_of 55 (Value.int IntKind.u64 (rows : Int)); refine (unhide H2 _ _ ((unhide hb1).later hb2)).mono ?_; rintro _ w3 ⟨v3, rfl, hb3⟩))
  have S3 : Hid (HB w w3 v3 (.slice none 0 0) (frontL Cs.length rows ++ hdL []) (bdL [])) := by show HB _ _ _ _ _ _; simpa [hdL, bdL] using unhide hb3
  clear hb1 hb2 hb3 r1 r2 r3 r4 q0 q1 q2 q3 hV0 HL0 H1 H2 hcv
  go_loopw [3, 4, 26] (fun hv bv s wr => ∃ (k : Nat) (ps : List (ByteArray × ByteArray)), s = .int .i64 (k : Int) ∧ k ≤ Cs.length ∧ Hid (HB w wr hv bv (frontL Cs.length rows ++ hdL ps) (bdL ps)) ∧ Hid (Ps K zf (Cs.take k) ps)) (fun _ _ s _ => Cs.length - (intOf s).toNat)
  case atStart => exact ⟨0, [], rfl, by omega, S3, Ps.nil _ _⟩
  case round =>
    obtain ⟨k, ps, rfl, hk, S, HP⟩ := hrel
    clear S3
    have hlen : (frontL Cs.length rows ++ hdL ps).length ≤ 330000 := by
      have h1 := hdL_len (unhide HP).z
      have h2 : ps.length ≤ 32 := by have := (unhide HP).len; simp at this; omega
      have h3 : (frontL Cs.length rows).length = 7 := by simp [frontL, beL_len]
      rw [List.length_append]
      omega
    have hbl : (bdL ps).length ≤ 3200000000 := by
      have h1 := bdL_len (unhide HP).s
      have h2 : ps.length ≤ 32 := by have := (unhide HP).len; simp at this; omega
      omega
    by_cases h1 : k < Cs.length
    · have i1 : (k : Int) < (Cs.length : Int) := by omega
      have hx := List.getElem?_eq_getElem h1
      generalize Cs[k] = x at hx
      have hm := List.mem_of_getElem? hx
      have LX := unhide HC x hm
      obtain ⟨q0, q1, q2, q3⟩ := (unhide HCOL k x hx).later (unhide S).bel
      have HV := hide ((unhide HVEC x hm).later (unhide S).bel)
      have HPK : Hid (∀ W, Below wr.heap.size wr W → Calls Tryz.prog 57 #[.agg #[.int .i64 x.1.k, .slice x.2.a1 x.1.nl.length x.2.c1, .slice x.2.a2 x.1.ns.length x.2.c2, .slice x.2.a3 x.1.ss.length x.2.c3]] W fun e w' => ∃ s, e = .returned (.tuple #[.string s, .int .i64 0]) ∧ Hid (K x.1 s) ∧ Below W.heap.size W w') := fun W hW => LX.pk x.2 W ((unhide HV).later hW)
      have HZ := hide LX.zo
      have HSZ := hide LX.sz
      have hzz := LX.zz
      have HX := hide hx
      have hwz : IntKind.u64.wrap ((zf x.1).size : Int) = ((zf x.1).size : Int) := by rw [IntKind.wrap_u64, Int.emod_eq_of_lt (by omega) (by omega)]
      clear hx LX hm
      go_wp2_with (first
        | (go_at_call 57; refine (unhide HPK _ (below_alloc (Below.refl _ _) _)).mono ?_; rintro _ w4 ⟨s, rfl, hk4, hb4⟩; have hss := unhide HSZ s (unhide hk4); have hws : IntKind.u64.wrap (s.size : Int) = (s.size : Int) := (by rw [IntKind.wrap_u64, Int.emod_eq_of_lt (by omega) (by omega)]))
        | (go_at_call 58; refine (unhide HZ s w4 (unhide hk4)).mono ?_; rintro _ w5 ⟨rfl, hb5⟩; have S5 := hide ((((unhide S).later (below_alloc (Below.refl _ _) _)).later hb4).later hb5))
        | (go_at_call_of 55 (Value.int IntKind.i64 2); refine ((unhide S5).num ((zf x.1).size : Int) 2 (by omega) (by omega)).mono ?_; rintro _ w6 ⟨v6, rfl, S6⟩)
        | (go_at_call_of 55 (Value.int IntKind.i64 4); refine ((unhide S7).num (s.size : Int) 4 (by omega) (by rw [List.length_append, List.length_append, beL_len, txt_len]; omega)).mono ?_; rintro _ w8 ⟨v8, rfl, S8⟩)
        | (at_builtin; refine wpList_append_txt rfl (.tmp 42) (.tmp 43) rfl w.heap.size v6 _ (zf x.1) rfl rfl (unhide S6).h (by rw [List.length_append, beL_len]; omega) (unhide S6).bel.size ?_; intro v7 w7 ho7 hg7; have S7 := hide ((unhide S6).head ho7 hg7))
        | (at_builtin; refine wpList_append_txt rfl (.tmp 50) (.tmp 51) rfl w.heap.size u4 _ s rfl rfl (unhide S8).b (by omega) (unhide S8).bel.size ?_; intro v9 w9 ho9 hg9; have S9 := hide ((unhide S8).body ho9 hg9)))
      refine ⟨⟨k + 1, ps ++ [(zf x.1, s)], by go_num, by omega, ?_, (unhide HP).snoc (unhide HX) (unhide hk4) hzz hss⟩, ?_⟩
      · show HB _ _ _ _ _ _
        rw [hdL_snoc, bdL_snoc]
        have := unhide S9
        simpa only [hd1, List.append_assoc] using this
      · first | (simp [intOf]; omega) | (simp only [intOf]; omega)
    · have i1 : ¬ (k : Int) < (Cs.length : Int) := by omega
      have hkn : k = Cs.length := by omega
      have HPF : Hid (Ps K zf Cs ps) := by show Ps _ _ _ _; have := unhide HP; rwa [hkn, List.take_length] at this
      have HSE : Hid (∀ W, Calls Tryz.prog 59 #[.string (toB ((frontL Cs.length rows ++ hdL ps) ++ bdL ps))] W fun e w' => e = .returned (.string (segB Cs.length rows ps)) ∧ Below W.heap.size W w') := fun W => sealed_any _ (by rw [toB_size, List.length_append]; omega) W
      clear hkn
      go_wp2_with (first
        | (at_builtin; refine wpList_append_rows _ rfl (.tmp 54) (.tmp 55) rfl w.heap.size w.heap.size u3 u4 _ _ rfl rfl (unhide S).h (unhide S).b (by omega) (unhide S).bel.size ?_; intro v4 w4 ho4 hg4; have hcv4 := convert_own ho4; have hb4 := (unhide S).bel.trans (hg4.below (unhide S).bel.size (fun g hh => (ownB_lt (unhide S).h hh).1)))
        | (go_at_call 59; refine (unhide HSE _).mono ?_; rintro _ w5 ⟨rfl, hb5⟩))
      go_ret
      exact ⟨ps, rfl, HPF, hb4.trans (hb5.mono hb4.size)⟩
end Go.Proofs.YthbfomcmjjnikaaGreat

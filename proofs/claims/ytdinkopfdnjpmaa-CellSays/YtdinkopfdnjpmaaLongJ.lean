import Derived.Test.YtdinkopfdnjpmaaLongI
import Derived.Laws.AppendOwnNone
set_option linter.unusedSimpArgs false
set_option linter.unusedVariables false
namespace Go.Proofs.Ytdinkopfdnjpmaa
open Go.RowKit Go.Sort

/-- Digits in memory without zeros at the end, of the number z. -/
def LongS (w : World) (s : Value) (z : Int) : Prop :=
  ∃ a cap zs, s = .slice a zs.length cap ∧ zs.length ≤ cap ∧ (a = none → cap = 0) ∧ DigAt w a zs ∧ Digs zs ∧ trimN zs zs.length = zs.length ∧ valD zs = z
theorem LongS.later {w w' : World} {s : Value} {z : Int} (h : LongS w s z) (hb : Below w.heap.size w w') : LongS w' s z := by
  obtain ⟨a, c, zs, h1, h2, h3, h4, h5⟩ := h
  exact ⟨a, c, zs, h1, h2, h3, h4.later hb, h5⟩
theorem LongS.nonneg {w : World} {s : Value} {z : Int} (h : LongS w s z) : 0 ≤ z := by
  obtain ⟨a, c, zs, h1, h2, h3, h4, h5, h6, rfl⟩ := h
  exact valD_nonneg h5
theorem LongS.long {w : World} {s : Value} {z : Int} (h : LongS w s z) : LongV w (.agg #[.bool false, s]) z := by
  have hn := h.nonneg
  obtain ⟨a, c, zs, rfl, h2, h3, h4, h5, h6, h7⟩ := h
  exact ⟨a, c, zs, by rw [show decide (z < 0) = false by simp; omega], h2, h3, h4, h5, h6, .inl h7⟩
theorem LongV.plain {w : World} {v : Value} {z : Int} (h : LongV w v z) (hz : 0 ≤ z) : ∃ s, v = .agg #[.bool false, s] ∧ LongS w s z := by
  obtain ⟨a, c, zs, rfl, h2, h3, h4, h5, h6, h7⟩ := h
  have hn := valD_nonneg h5
  exact ⟨_, by rw [show decide (z < 0) = false by simp; omega], a, c, zs, rfl, h2, h3, h4, h5, h6, by omega⟩
theorem LongS.set {w : World} {s : Value} {z : Int} {g j : Nat} {F : Nat → Value} {u : Value} (h : LongS w s z) (hr : w.rowIs g 58 2 F) (hF : ∀ k, k < 2 → ∀ x, F k ≠ .int .u32 x) : LongS (w.setCell ⟨g, j, none⟩ u) s z := by
  obtain ⟨a, c, zs, h1, h2, h3, h4, h5⟩ := h
  exact ⟨a, c, zs, h1, h2, h3, h4.set hr hF, h5⟩
theorem box2_no {o : Bool} {s : Value} (hs : ∃ a l c, s = .slice a l c) : ∀ k, k < 2 → ∀ x, box2 (.bool o) s k ≠ .int .u32 x := by
  obtain ⟨a, l, c, rfl⟩ := hs
  intro k hk x
  match k, hk with
  | 0, _ => simp [box2]
  | 1, _ => simp [box2]
theorem box2_both {w : World} {g : Nat} {a b u v : Value} (h : w.rowIs g 58 2 (box2 a b)) : ((w.setCell ⟨g, 0, none⟩ u).setCell ⟨g, 1, none⟩ v).rowIs g 58 2 (box2 u v) := ((h.set 0 u).set 1 v).congr fun i hi => by
  match i, hi with
  | 0, _ => rfl
  | 1, _ => rfl
theorem LongS.set2 {w : World} {s : Value} {z : Int} {g : Nat} {o o' : Bool} {s0 s1 : Value} (h : LongS w s z) (hr : w.rowIs g 58 2 (box2 (.bool o) s0)) (hs : ∃ a l c, s0 = .slice a l c) : LongS ((w.setCell ⟨g, 0, none⟩ (.bool o')).setCell ⟨g, 1, none⟩ s1) s z := by
  have h1 : (w.setCell ⟨g, 0, none⟩ (.bool o')).rowIs g 58 2 (box2 (.bool o') s0) := (hr.set 0 _).congr fun i hi => by
    match i, hi with
    | 0, _ => rfl
    | 1, _ => rfl
  exact (h.set hr (box2_no hs)).set h1 (box2_no hs)
theorem LongS.shape {w : World} {s : Value} {z : Int} (h : LongS w s z) : ∃ a l c, s = .slice a l c := by
  obtain ⟨a, c, zs, h1, _⟩ := h
  exact ⟨a, _, c, h1⟩

theorem trimmed_s (a : Option Addr) (cap : Nat) (ds : List Int) (m : Bool) (w : World) (hl : ds.length ≤ 1000000000) (hcap : ds.length ≤ cap) (hn : a = none → cap = 0) (hd : Digs ds) (ha : DigAt w a ds) :
    Calls Try.prog 55 #[.agg #[.bool m, .slice a ds.length cap]] w fun e w' => ∃ s, e = .returned (.agg #[.bool (m && decide (0 < valD ds)), s]) ∧ LongS w' s (valD ds) ∧ Below w.heap.size w w' := by
  refine (trimmed_any a cap ds m w hl hcap ha).mono fun e w' ⟨he, hb⟩ => ?_
  subst he
  obtain ⟨rs, er, hlr, hdr, hvr, htr⟩ := trim_good ds hd
  have hp := pos_of_val hdr htr
  rw [hlr, hvr] at hp
  refine ⟨.slice a (trimN ds ds.length) cap, by rw [hp], ⟨a, cap, rs, by rw [hlr], by have := trimN_le ds ds.length; omega, hn, ?_, hdr, htr, hvr⟩, hb⟩
  have := (ha.later hb).take (trimN ds ds.length)
  rw [er] at this
  exact this

/-- append([]uint32{0}, out.d...). -/
theorem wpList_zero_front {ops : Array Oper} {rest : List Oper} {o : Oper} {a : Act} {Q : Exit → Act → World → Prop} (w : World) (hgd : o.guard = none) (s x : Operand) (ho : o.op = .call { callee := .builtin .append, args := #[s, x], argTypes := #[56, 56] })
    (base : Nat) (v u : Value) (z : Int) (hs : a.eval s = v) (hx : a.eval x = u) (hown : OwnD w base v [0]) (hu : LongS w u z) (hlen : ∀ b l c, u = .slice b l c → l ≤ 1000000) (hbase : base ≤ w.heap.size)
    (h : ∀ v' w' ys, OwnD w' base v' ys → ys.length ≤ 1000001 → Digs ys → valD ys = 65536 * z → w.grownBy w' v.ownBlock → wpList Try.prog ops Q rest (a.put o.dst v') w') : wpList Try.prog ops Q (o :: rest) a w := by
  obtain ⟨i0, hi, hz0, hz1, hz2⟩ := info_parts Try.info76
  obtain ⟨b, cap, zs, rfl, h2, h3, h4, h5, h6, h7⟩ := hu
  have hl := hlen _ _ _ rfl
  have hd : Digs ([0] ++ zs) := by
    intro y hy
    rcases List.mem_append.1 hy with hy | hy
    · simp at hy; subst hy; omega
    · exact h5 y hy
  have hv : valD ([0] ++ zs) = 65536 * z := by simp [valD, h7]
  rcases h4 with e | ⟨bb, off, rfl, hc⟩
  · subst e
    cases b with
    | none =>
      have hc0 := h3 rfl
      subst hc0
      refine wpList_append_own_none hgd s x 56 ho base 76 i0 1 Try.underlying56 hi v 1 [.int .u32 0] hs hown hx ?_
      exact h v w [0] hown (by simp) hd hv (World.grownBy.refl _ _)
    | some ad =>
      refine wpList_append_own_at w hgd s x 56 ho base 76 i0 (.int .u32 0) 1 4 Try.underlying56 hi hz0 hz1 hz2 rfl (by decide) v 1 [.int .u32 0] hs hown ad 0 cap [] hx rfl (by simp) (by simp) (by unfold maxLen; omega) (by omega) hbase ?_
      intro v' w' h1 h2' _ _
      exact h v' w' [0] h1 (by simp) hd hv h2'
  · refine wpList_append_own_at w hgd s x 56 ho base 76 i0 (.int .u32 0) 1 4 Try.underlying56 hi hz0 hz1 hz2 rfl (by decide) v 1 [.int .u32 0] hs hown ⟨bb, off, none⟩ zs.length cap (zs.map (.int .u32)) hx (by simp) ?_ (by intro u hu; obtain ⟨y, _, rfl⟩ := List.mem_map.1 hu; rfl) (by unfold maxLen; omega) (by omega) hbase ?_
    · intro j u hj
      rw [List.getElem?_map] at hj
      obtain ⟨y, hy, rfl⟩ := Option.map_eq_some_iff.1 hj
      rw [Addr.add_lit]
      exact hc j y hy
    · intro v' w' h1 h2' _ _
      refine h v' w' ([0] ++ zs) ?_ (by simp; omega) hd hv h2'
      unfold OwnD
      have e1 : ([0] ++ zs).length = 1 + zs.length := by simp; omega
      rw [e1]
      simpa using h1
end Go.Proofs.Ytdinkopfdnjpmaa

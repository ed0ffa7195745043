import Derived.Test.YtcbenpodohjbiaaGreatSqD
import Derived.Test.YtcbenpodohjbiaaGreatSqC
set_option linter.unusedSimpArgs false
set_option linter.unusedVariables false
set_option maxRecDepth 100000
namespace Go.Proofs.YtcbenpodohjbiaaGreat
open Go.RowKit Go.Sort

theorem info120 : (Tryz.prog.info? 120).map (fun i => (i.zero, i.size, i.bytes)) = some (some (.agg #[.slice none 0 0, .int .i64 0]), 2, 32) := by kernel_rfl
/-- append of a head, in a list of one that was made for it. -/
theorem wpList_push_head {ops : Array Oper} {rest : List Oper} {o : Oper} {a : Act} {Q : Exit → Act → World → Prop} (w : World) (hgd : o.guard = none) (s x : Operand) (ho : o.op = .call { callee := .builtin .append, args := #[s, x], argTypes := #[115, 115] })
    (v : Value) (L : List Hd) (z : Hd) (hs : a.eval s = v) (hown : OwnH w v L) (t : Nat) (hx : a.eval x = .slice (some ⟨t, 0, none⟩) 1 1) (hy : w.cell? ⟨t, 0, none⟩ = some z.u) (hy1 : w.cell? ⟨t, 1, none⟩ = some (.int .i64 (z.i : Nat))) (hrw : Rw w z.u z.r) (hl : L.length + 1 ≤ 4194304)
    (h : ∀ v' w', OwnH w' v' (L ++ [z]) → Grew w w' v v' → Ky (fun k => v.ownBlock = some k) w w' → wpList Tryz.prog ops Q rest (a.put o.dst v') w') : wpList Tryz.prog ops Q (o :: rest) a w := by
  obtain ⟨i4, hi4, z40, z41, z42⟩ := info_parts info120
  refine wpList_append_own_at w hgd s x 115 ho 0 120 i4 (.agg #[.slice none 0 0, .int .i64 0]) 2 32 Tryz.underlying115 hi4 z40 z41 z42 rfl (by decide) v L.length (L.flatMap hc2) hs hown.1 ⟨t, 0, none⟩ 1 1 (hc2 z) hx rfl (fun j y hj => by
    match j, hj with
    | 0, hj => simp [hc2] at hj; subst hj; simpa [Addr.add] using hy
    | 1, hj => simp [hc2] at hj; subst hj; simpa [Addr.add] using hy1
    | j + 2, hj => simp [hc2] at hj) (fun y hy => by simp [hc2] at hy; rcases hy with rfl | rfl; exact hrw.one; rfl) (by unfold maxLen; omega) (by omega) (Nat.zero_le _) ?_
  intro v' w' k1 k2 _ k4
  have hky : Ky (fun k => v.ownBlock = some k) w w' := Ky.of_grown k2 (fun g e => e) (fun g t e hc q => (own_tg hown.1 e).ne q (by rintro rfl; revert hc; decide) rfl)
  refine h v' w' ⟨?_, fun y hy => ?_⟩ ⟨k2, k4.imp id fun e => ⟨_, e, Nat.le_refl _⟩⟩ hky
  · rw [List.length_append, List.flatMap_append]
    have e : List.flatMap hc2 [z] = hc2 z := by simp
    rw [e]
    exact k1
  · rcases List.mem_append.1 hy with q | q
    · exact (hown.2 y q).ky hky
    · simp at q; subst q; exact hrw.ky hky
/-- What open has done: of each of these runs the first row is a head. -/
structure Opn (ids : List Nat) (L : List Hd) (Y Y' : Yv) : Prop where
  rd : Y'.rd = false
  rf : Y'.rf = Y.rf
  cd : Y'.cd = Y.cd
  out : Y'.out = Y.out
  there : Y'.there = Y.there
  puts : Y'.puts = Y.puts
  held : Y'.held = Y.held + ids.length
  most : Y'.most = if Y.most < Y.held + ids.length ∧ ids ≠ [] then Y.held + ids.length else Y.most
  len : Y'.runs.length = Y.runs.length
  hids : L.map Hd.i = ids
  oth : ∀ j, j ∉ ids → Y'.runs[j]? = Y.runs[j]?
  each : ∀ h ∈ L, ∃ x rs, Y.runs[h.i]? = some (x :: rs) ∧ h.r = cleanR x ∧ Y'.runs[h.i]? = some rs
theorem Opn.start {Y : Yv} (h : Y.rd = false) : Opn [] [] Y Y := ⟨h, rfl, rfl, rfl, rfl, rfl, by simp, by simp, rfl, rfl, fun _ _ => rfl, fun _ h => by simp at h⟩
theorem Opn.more {ids : List Nat} {L : List Hd} {Y Y1 : Yv} {i : Nat} {x : List Val} {rs : List (List Val)} (h : Opn ids L Y Y1) (hi : i ∉ ids) (hr : Y.runs[i]? = some (x :: rs)) (hh : Y1.hit = false) (u : Value) : Opn (ids ++ [i]) (L ++ [⟨u, cleanR x, i⟩]) Y ((Y1.tick.read i rs).hold 1) := by
  have hil : i < Y.runs.length := (List.getElem?_eq_some_iff.1 hr).1
  have e1 : ((Y1.tick.read i rs).hold 1).runs = Y1.runs.set i rs := rfl
  have hm := h.most
  have hd := h.held
  refine ⟨hh, h.rf, h.cd, h.out, h.there, h.puts, ?_, ?_, by rw [e1, List.length_set]; exact h.len, by rw [List.map_append, h.hids]; rfl, fun j hj => ?_, fun y hy => ?_⟩
  · show Y1.held + 1 = _
    rw [hd, List.length_append]; simp; omega
  · show (if Y1.held + 1 > Y1.most then Y1.held + 1 else Y1.most) = _
    rw [hd, hm, List.length_append]
    simp only [List.length_singleton]
    by_cases c1 : Y.most < Y.held + (ids.length : Int) ∧ ids ≠ []
    · rw [if_pos c1, if_pos (by omega), if_pos ⟨by have := c1.1; omega, by simp⟩]; omega
    · rw [if_neg c1]
      by_cases c2 : Y.held + (ids.length : Int) + 1 > Y.most
      · rw [if_pos c2, if_pos ⟨by omega, by simp⟩]; omega
      · rw [if_neg c2, if_neg (by rintro ⟨q, _⟩; omega)]
  · rw [e1, List.getElem?_set, if_neg (by rintro rfl; exact hj (by simp))]
    exact h.oth j (fun q => hj (by simp [q]))
  · rcases List.mem_append.1 hy with q | q
    · obtain ⟨x', rs', p1, p2, p3⟩ := h.each y q
      refine ⟨x', rs', p1, p2, ?_⟩
      rw [e1, List.getElem?_set, if_neg (by rintro rfl; exact hi (by rw [← h.hids]; exact List.mem_map.2 ⟨y, q, rfl⟩))]
      exact p3
    · simp at q
      subst q
      refine ⟨x, rs, hr, rfl, ?_⟩
      rw [e1, List.getElem?_set, if_pos rfl, if_pos (by rw [h.len]; exact hil)]
end Go.Proofs.YtcbenpodohjbiaaGreat
set_option linter.unusedSimpArgs false
set_option linter.unusedVariables false
set_option maxRecDepth 100000
namespace Go.Proofs.YtcbenpodohjbiaaGreat
open Go.RowKit Go.Sort

/-- Numbers of runs, to be read; not in F. -/
def IdsK (w : World) (F : Nat → Prop) (a : Option Addr) (ids : List Nat) : Prop := ids = [] ∨ ∃ b off, a = some ⟨b, off, none⟩ ∧ Tg 3 w b ∧ ¬ F b ∧ ∀ (i : Nat) (x : Nat), ids[i]? = some x → w.cell? ⟨b, off + i, none⟩ = some (.int .i64 (x : Nat))
theorem IdsK.ky {F F' G : Nat → Prop} {w w' : World} {a : Option Addr} {ids : List Nat} (h : IdsK w F a ids) (hk : Ky G w w') (hg : ∀ k, G k → F k ∨ w.heap.size ≤ k) (hn : Nw F F' w) : IdsK w' F' a ids := by
  rcases h with h | ⟨b, off, e, t, hb, h⟩
  · exact .inl h
  · have nb : ¬ G b := fun q => by
      rcases hg b q with r | r
      · exact hb r
      · have := t.lt; omega
    refine .inr ⟨b, off, e, hk.tg t nb, fun q => ?_, fun i x hx => hk.cell (h i x hx) nb⟩
    rcases hn b q with r | r
    · exact hb r
    · have := t.lt; omega
/-- A round of open begins. -/
structure OI (w wr : World) (b y m mg B : Nat) (ks : List (Int × Bool)) (Y : Yv) (op : Option Nat) (a : Option Addr) (ids : List Nat) (F : Nat → Prop) (k : Nat) (L : List Hd) (Yk : Yv) (F1 : Nat → Prop) : Prop where
  nw : Nw F F1 w
  mono : ∀ j, F j → F1 j
  mw : Mw wr b y m mg B ks Yk op L F1
  ky : Ky F w wr
  hid : IdsK wr F1 a ids
  opn : Opn (ids.take k) L Y Yk
theorem Mw.cut {F : Nat → Prop} {w : World} {b y m mg B : Nat} {ks : List (Int × Bool)} {Y : Yv} {op : Option Nat} {L : List Hd} (h : Mw w b y m mg B ks Y op L F) : Mw w b y m mg B ks Y op L (fun k => F k ∧ k < w.heap.size) := by
  obtain ⟨h1, h2, F0, vH, h3, h4, h5, h6, h7, h8, h9⟩ := h
  exact ⟨fun e => h1 e.1, ⟨h2, h7.tg.lt⟩, fun k => F0 k ∧ k < w.heap.size, vH, fun k e => ⟨h3 k e.1, e.2⟩, fun e => h4 e.1, fun g e => ⟨⟨(h5 g e).1, (own_tg h8.1 e).lt⟩, fun k => (h5 g e).2 k.1⟩, h6.cut, h7, h8, h9⟩
/-- Another head stands behind the others. -/
theorem Mw.push {F F0 F1 : Nat → Prop} {w w1 wA w2 : World} {b y m mg B : Nat} {ks : List (Int × Bool)} {Y' : Yv} {op : Option Nat} {L : List Hd} {vH vH' : Value} {z : Hd} (h1 : ¬ F y) (h2 : F mg) (h3 : ∀ k, F0 k → F k) (h4 : ¬ F0 mg) (h5 : ∀ g, vH.ownBlock = some g → F g ∧ ¬ F0 g) (h7 : Mx w mg y B vH) (h8 : OwnH w vH L) (h9 : OrdF w B ks)
    (n1 : Nw F0 F1 w) (a3 : Yw w1 b y m Y' op F1) (a4 : Ky F0 w w1) (lim : ∀ k, F1 k → k < w1.heap.size) (hA : Below w1.heap.size w1 wA) (hH : OwnH w2 vH' (L ++ [z])) (hg : Grew wA w2 vH vH') (hK : Ky (fun k => vH.ownBlock = some k) wA w2) :
    Mo w (w2.setCell ⟨mg, 2, none⟩ vH') b y m mg B ks Y' op (L ++ [z]) F := by
  have tH : ∀ g, vH.ownBlock = some g → Tg 120 w g := fun g e => own_tg h8.1 e
  have nF1 : ∀ k, k < w.heap.size → ¬ F0 k → ¬ F1 k := fun k hk hf e => by
    rcases n1 k e with q | q
    · exact hf q
    · omega
  have nmH : ¬ vH.ownBlock = some mg := fun e => (tH mg e).ne h7.tg (by decide) rfl
  have M1 := h7.ky a4 h4
  have M2 := (M1.later hA).ky hK nmH
  have k3 : Ky (fun k => k = mg) w2 (w2.setCell ⟨mg, 2, none⟩ vH') := (Ky.refl (fun k => k = mg) w2).set (F := fun k => k = mg) rfl M2.tg (by decide) _ _
  have k13 : Ky (fun k => vH.ownBlock = some k ∨ k = mg) w1 (w2.setCell ⟨mg, 2, none⟩ vH') := ((Ky.of_below hA).trans (hK.mono fun k e => .inl e) (Nw.refl _ _)).trans (k3.mono fun k e => .inr e) (Nw.refl _ _)
  have ty1 := a3.tgy
  have new : ∀ g, vH'.ownBlock = some g → (vH.ownBlock = some g ∨ w1.heap.size ≤ g) := fun g e => by
    rcases hg.2 with q | ⟨q, q1, q2⟩
    · left; rw [← q]; exact e
    · right; rw [q1] at e; injection e with e; have := hA.size; omega
  have nH1 : ∀ g, vH'.ownBlock = some g → ¬ F1 g := fun g e => by
    rcases new g e with q | q
    · exact nF1 g (tH g q).lt (h5 g q).2
    · exact fun f => by have := lim g f; omega
  have s1 := a4.size
  refine ⟨fun k => F k ∨ F1 k ∨ vH'.ownBlock = some k, fun k hk => ?_, fun k hk => .inl hk, ⟨fun e => ?_, .inl h2, F1, vH', fun k hk => .inr (.inl hk), nF1 mg h7.tg.lt h4, fun g e => ⟨.inr (.inr e), nH1 g e⟩, a3.ky k13 (fun k e => ?_) (fun e => ?_), M2.set _, hH.ky k3 (fun g e q => ?_), (h9.ky a4).ky k13⟩, ?_⟩
  · rcases hk with hk | hk | hk
    · exact .inl hk
    · exact (n1 k hk).imp (h3 k) id
    · rcases new k hk with q | q
      · exact .inl (h5 k q).1
      · exact .inr (by omega)
  · rcases e with e | e | e
    · exact h1 e
    · exact a3.1 e
    · rcases new y e with q | q
      · exact ((a4.tg (tH y q) (h5 y q).2)).ne ty1 (by decide) rfl
      · have := ty1.lt; omega
  · rcases e with e | e
    · exact nF1 k (tH k e).lt (h5 k e).2
    · subst e; exact nF1 k h7.tg.lt h4
  · rcases e with e | e
    · exact ((a4.tg (tH y e) (h5 y e).2)).ne ty1 (by decide) rfl
    · exact ty1.ne M1.tg (by decide) e
  · exact (own_tg hH.1 e).ne M2.tg (by decide) q
  · exact (a4.mono h3).trans (k13.mono (G := F) fun k e => by rcases e with e | e; exact (h5 k e).1; subst e; exact h2) (Nw.refl _ _)
end Go.Proofs.YtcbenpodohjbiaaGreat

import Derived.Test.YtgmfbjehdcdioaaOjH
set_option linter.unusedSimpArgs false
set_option linter.unusedVariables false
set_option maxRecDepth 100000
namespace Go.Proofs.Ytgmfbjehdcdioaa
open Go.RowKit Go.Sort

/-- The part with Merge: S is as All told it, T its copy. -/
def PmS (w0 w : World) (k : Nat) (bx : Nat → Nat) (bs : Nat) (x : Cm) (S T : Value) : Prop := ∃ F1 X1 f1 pr ys, Pm w0 w k bx bs x F1 X1 f1 pr T ys ∧ Pb w0 bs pr S T ∧ OwnF w 0 S ys ∧ ys.Perm (tolds F1.E F1.n) ∧ (ys.Pairwise fun x y => ordC x y ≤ 0) ∧ ys.length ≤ 1024
/-- The same, with S spoilt. -/
def PmT (w0 w : World) (k : Nat) (bx : Nat → Nat) (bs : Nat) (x : Cm) (T : Value) : Prop := ∃ S F1 X1 f1 pr ys, Pm w0 w k bx bs x F1 X1 f1 pr T ys ∧ Pb w0 bs pr S T ∧ ys.Perm (tolds F1.E F1.n) ∧ (ys.Pairwise fun x y => ordC x y ≤ 0) ∧ ys.length ≤ 1024
variable {w0 w W : World} {k : Nat} {bx : Nat → Nat} {bs : Nat} {x : Cm}
theorem Sm.few {F : Nat → Ft} {XS : Nat → List (Vk × Nat)} {FL : Nat → Nat} {pr : Nat → Prop} (h : Sm w0 w k bx F XS FL pr) (hk : k ≤ 1024) {p : Nat} (hp : p < 3) {w1 w2 : World} {S : Value} {ys : List Cn} (hA : AlA w1 w2 S (F p).n (F p).E ys) : ys.length ≤ 1024 := by
  obtain ⟨L, hO, _, hn⟩ := (h.sk p hp).1
  rw [hA.perm.length_eq, tolds_len]
  omega
theorem At3.all1 (h : At3 w0 W k bx bs x) (hk : k ≤ 1024) : Calls Try.prog 11 #[.pointer (some ⟨bx 1, 0, none⟩)] W fun e w' => ∃ a n c T w2, e = .returned (.slice a n c) ∧ (Builtin.append_ #[42, 42] 42 #[.slice (some ⟨w'.heap.size, 0, none⟩) 0 0, .slice a n c]).run Try.prog (w'.alloc (.cells #[] 47)) = .ok T w2 ∧ PmS w0 w2 k bx bs x (.slice a n c) T := by
  obtain ⟨⟨F, XS, FL, ht⟩, hx⟩ := h
  refine (ht.sm.all hk (p := 1) (by decide)).mono ?_
  rintro e w' ⟨S, ys, rfl, hA⟩
  have hlen := ht.sm.few hk (p := 1) (by decide) hA
  obtain ⟨a, c, hS⟩ := hA.own.slice
  obtain ⟨T, w2, hr, h2, h3⟩ := copy_any hA.own (by omega) a c hS
  subst hS
  obtain ⟨q1, q2, q3⟩ := At3.copy ht hx hA h2 h3
  exact ⟨a, ys.length, c, T, w2, rfl, hr, _, _, _, _, _, q1, q2, q3, hA.perm, hA.rises, hlen⟩
theorem PmS.merge {S T : Value} (h : PmS w0 w k bx bs x S T) (hk : k ≤ 1024) :
    (Calls Try.prog 6 #[.pointer (some ⟨bx 2, 0, none⟩), .pointer (some ⟨bx 1, 0, none⟩)] w fun e w' => e = .returned (.int .i64 0) ∧ PmS w0 w' k bx bs x S T) ∨
    ∃ T1 T2 : Nat, 4611686018427387904 < T2 + T1 ∧ (Calls Try.prog 6 #[.pointer (some ⟨bx 2, 0, none⟩), .pointer (some ⟨bx 1, 0, none⟩)] w fun e w' => e = .returned (.int .i64 3) ∧ PmS w0 w' k bx bs x S T ∧
      (Calls Try.prog 12 #[.pointer (some ⟨bx 1, 0, none⟩)] w' fun e w'' => e = .returned (.int .i64 T1) ∧ w'' = w') ∧ (Calls Try.prog 12 #[.pointer (some ⟨bx 2, 0, none⟩)] w' fun e w'' => e = .returned (.int .i64 T2) ∧ w'' = w')) := by
  obtain ⟨F1, X1, f1, pr, ys, h1, h2, h3, h4⟩ := h
  rcases h1.merge h2 h3 hk with g | ⟨T1, T2, hT, g⟩
  · left
    refine g.mono ?_
    rintro e w' ⟨rfl, q1, q2⟩
    exact ⟨rfl, _, _, _, _, _, q1, h2, q2, h4⟩
  · right
    refine ⟨T1, T2, hT, g.mono ?_⟩
    rintro e w' ⟨rfl, q1, q2, q3⟩
    exact ⟨rfl, ⟨_, _, _, _, _, q1, h2, q2, h4⟩, q3⟩
theorem PmS.box {S T : Value} (h : PmS w0 w k bx bs x S T) : w.rowIs bs 36 7 (fun j => match j with | 0 => .int .i64 x.k | 1 => .int .i64 x.n | 2 => .string x.s | 3 => .int .i64 x.N | 4 => .bool x.m | 5 => .int .i64 x.A | _ => .int .i64 x.B) := by
  obtain ⟨F1, X1, f1, pr, ys, h1, _⟩ := h
  exact h1.box
theorem PmS.add {S T : Value} (h : PmS w0 w k bx bs x S T) (hk : k ≤ 1024) :
    Calls Try.prog 8 #[.pointer (some ⟨bx 2, 0, none⟩), .agg #[.int .i64 x.k, .int .i64 x.n, .string x.s], .int .i64 1] w fun e w' => ∃ er : Int, e = .returned (.int .i64 er) ∧ PmS w0 w' k bx bs x S T := by
  obtain ⟨F1, X1, f1, pr, ys, h1, h2, h3, h4⟩ := h
  refine (h1.add h2 h3 hk ⟨x.k, x.n, x.s⟩ 1).mono ?_
  rintro e w' ⟨er, rfl, q1, q2⟩
  exact ⟨er, rfl, _, _, _, _, _, q1, h2, q2, h4⟩
theorem PmS.spoil {S T : Value} (h : PmS w0 w k bx bs x S T) :
    Calls Try.prog 13 #[S, .agg #[.int .i64 0, .int .i64 0, .string ⟨#[]⟩, .int .i64 9999, .int .i64 0]] w fun e w' => e = .returned (.tuple #[]) ∧ PmT w0 w' k bx bs x T := by
  obtain ⟨F1, X1, f1, pr, ys, h1, h2, h3, h4, h5, h6⟩ := h
  refine (h1.spoil h2 h3 h6).mono ?_
  rintro e w' ⟨rfl, q1⟩
  exact ⟨rfl, _, _, _, _, _, _, q1, h2, h4, h5, h6⟩
theorem PmT.all {T : Value} (h : PmT w0 w k bx bs x T) (hk : k ≤ 1024) :
    Calls Try.prog 11 #[.pointer (some ⟨bx 1, 0, none⟩)] w fun e w' => ∃ S, e = .returned S ∧ Calls Try.prog 14 #[S, T] w' fun e w'' => e = .returned (.bool true) ∧ At3 w0 w'' k bx bs x := by
  obtain ⟨S, F1, X1, f1, pr, ys, h1, h2, h4, h5, h6⟩ := h
  obtain ⟨F, XS, FL, ht, e1, e2, e3⟩ := h1.tw
  refine (ht.sm.all hk (p := 1) (by decide)).mono ?_
  rintro e w' ⟨S2, ys2, rfl, hA⟩
  rw [e1] at hA
  exact ⟨S2, rfl, h1.same h2 h4 h5 h6 hA⟩

/-- Between the two Adds. -/
def AtH (w0 w : World) (k : Nat) (bx : Nat → Nat) (bs : Nat) (x : Cm) (er : Int) : Prop := ∃ wq F XS FL F0 X0 f0, Tw w0 wq k bx F XS FL (fun z => z = bs) ∧ Sm w0 w k bx (up F 0 F0) (up XS 0 X0) (up FL 0 f0) (fun z => z = bs) ∧ AddR k (FL 0) (F 0) (XS 0) ⟨x.k, x.n, x.s⟩ x.N F0 f0 X0 ∧ er = erN x.N (tot (XS 0)) ∧ w.rowIs bs 36 7 (fun j => match j with | 0 => .int .i64 x.k | 1 => .int .i64 x.n | 2 => .string x.s | 3 => .int .i64 x.N | 4 => .bool x.m | 5 => .int .i64 x.A | _ => .int .i64 x.B)
theorem At3.add0 (h : At3 w0 W k bx bs x) (hk : k ≤ 1024) :
    Calls Try.prog 8 #[.pointer (some ⟨bx 0, 0, none⟩), .agg #[.int .i64 x.k, .int .i64 x.n, .string x.s], .int .i64 x.N] W fun e w' => ∃ er : Int, e = .returned (.int .i64 er) ∧ AtH w0 w' k bx bs x er := by
  obtain ⟨⟨F, XS, FL, ht⟩, hx⟩ := h
  refine (ht.sm.add hk (p := 0) (by decide) ⟨x.k, x.n, x.s⟩ x.N).mono ?_
  rintro e w' ⟨rfl, F', X', fl', o1, o2, o3⟩
  exact ⟨_, rfl, W, F, XS, FL, F', X', fl', ht, o1, o3, rfl, hx.of_block (o2 bs rfl)⟩
theorem AtH.add1 {er : Int} (h : AtH w0 W k bx bs x er) (hk : k ≤ 1024) :
    Calls Try.prog 8 #[.pointer (some ⟨bx 1, 0, none⟩), .agg #[.int .i64 x.k, .int .i64 x.n, .string x.s], .int .i64 x.N] W fun e w' => e = .returned (.int .i64 er) ∧ At3 w0 w' k bx bs x := by
  obtain ⟨wq, F, XS, FL, F0, X0, f0, ht, hs, ha, rfl, hx⟩ := h
  have n1 : (1 : Nat) ≠ 0 := by decide
  refine (hs.add hk (p := 1) (by decide) ⟨x.k, x.n, x.s⟩ x.N).mono ?_
  rintro e w' ⟨rfl, F', X', fl', o1, o2, o3⟩
  rw [up_ne n1, up_ne n1, up_ne n1] at o3
  refine ⟨by rw [up_ne n1, ht.xs], ⟨_, _, _, ht.both (w1 := W) ha o3 o1⟩, hx.of_block (o2 bs rfl)⟩
theorem AtH.box {er : Int} (h : AtH w0 w k bx bs x er) : w.rowIs bs 36 7 (fun j => match j with | 0 => .int .i64 x.k | 1 => .int .i64 x.n | 2 => .string x.s | 3 => .int .i64 x.N | 4 => .bool x.m | 5 => .int .i64 x.A | _ => .int .i64 x.B) := by
  obtain ⟨wq, F, XS, FL, F0, X0, f0, ht, hs, ha, e, hx⟩ := h
  exact hx
/-- spoilt(o.All()). -/
theorem At3.all0 (h : At3 w0 W k bx bs x) (hk : k ≤ 1024) : Calls Try.prog 11 #[.pointer (some ⟨bx 0, 0, none⟩)] W fun e w' => ∃ S, e = .returned S ∧ Calls Try.prog 13 #[S, .agg #[.int .i64 0, .int .i64 0, .string ⟨#[]⟩, .int .i64 9999, .int .i64 0]] w' fun e w'' => e = .returned (.tuple #[]) ∧ At3 w0 w'' k bx bs x := by
  obtain ⟨⟨F, XS, FL, ht⟩, hx⟩ := h
  refine (ht.sm.all hk (p := 0) (by decide)).mono ?_
  rintro e w' ⟨S, ys, rfl, hA⟩
  have hlen := ht.sm.few hk (p := 0) (by decide) hA
  have g1 := ht.sm.guard hA.bel (g := S.ownBlock) fun z hz => World.ownsRow.lt hA.own z hz
  have hx1 := rowIs_later hx hA.bel
  refine ⟨S, rfl, (spoilt_any (own_zero hA.own) hlen ⟨0, 0, ⟨#[]⟩, 9999, 0⟩).mono ?_⟩
  rintro e w'' ⟨rfl, hg⟩
  refine ⟨rfl, ⟨F, XS, FL, (g1.spoil hg fun z hz => ⟨.inr hz, Nat.le_trans ht.sm.bel.size (World.ownsRow.lt hA.own z hz).1⟩).less fun z hz => .inl hz, ht.xs, ht.fl, ht.pe, ht.cl⟩, hx1.of_block (hg.block bs hx1.lt fun e => ?_)⟩
  have := (World.ownsRow.lt hA.own bs e.symm).1
  have := hx.lt
  omega
/-- sameFound(o.All(), p.All()). -/
theorem At3.two (h : At3 w0 W k bx bs x) (hk : k ≤ 1024) : Calls Try.prog 11 #[.pointer (some ⟨bx 0, 0, none⟩)] W fun e w' => ∃ S, e = .returned S ∧ Calls Try.prog 11 #[.pointer (some ⟨bx 1, 0, none⟩)] w' fun e w1 => ∃ S2, e = .returned S2 ∧ Calls Try.prog 14 #[S, S2] w1 fun e w2 => e = .returned (.bool true) ∧ At3 w0 w2 k bx bs x := by
  obtain ⟨⟨F, XS, FL, ht⟩, hx⟩ := h
  refine (ht.sm.all hk (p := 0) (by decide)).mono ?_
  rintro e w' ⟨S, ys, rfl, hA⟩
  have hlen := ht.sm.few hk (p := 0) (by decide) hA
  have ht1 := ht.later hA.bel
  refine ⟨S, rfl, (ht1.sm.all hk (p := 1) (by decide)).mono ?_⟩
  rintro e w1 ⟨S2, ys2, rfl, hA2⟩
  obtain ⟨L, hO, hL, hn⟩ := (ht.sm.sk 0 (by decide)).1
  have he : ys = ys2 := all_same hL ht.cl ht.pe hA.perm hA2.perm hA.rises hA2.rises
  subst he
  have hOL : OwnF w1 W.heap.size S ys := own_later hA.own hA2.bel
  refine ⟨S2, rfl, (same_any hOL.rd hA2.own.rd (by omega)).mono ?_⟩
  rintro e w2 ⟨rfl, hb⟩
  have hbb := below_step hA2.bel hb
  exact ⟨rfl, ⟨F, XS, FL, ht1.later hbb⟩, rowIs_later (rowIs_later hx hA.bel) hbb⟩
theorem At3.tot (h : At3 w0 W k bx bs x) : ∃ T : Nat, (Calls Try.prog 12 #[.pointer (some ⟨bx 0, 0, none⟩)] W fun e w' => e = .returned (.int .i64 T) ∧ w' = W) ∧ Calls Try.prog 12 #[.pointer (some ⟨bx 1, 0, none⟩)] W fun e w' => e = .returned (.int .i64 T) ∧ w' = W := by
  obtain ⟨⟨F, XS, FL, ht⟩, hx⟩ := h
  refine ⟨Go.Proofs.Ytgmfbjehdcdioaa.tot (XS 0), ht.sm.tot (by decide), ?_⟩
  rw [ht.xs]
  exact ht.sm.tot (by decide)
theorem At3.less (h : At3 w0 W k bx bs x) : At2 w0 W k bx := by
  obtain ⟨⟨F, XS, FL, ht⟩, hx⟩ := h
  exact ⟨F, XS, FL, ht.sm.less fun z hz => hz.elim, ht.xs, ht.fl, ht.pe, ht.cl⟩
theorem At2.row (h : At2 w0 w k bx) (hb : Below w.heap.size w W) (hs : w.heap.size = bs) (hx : W.rowIs bs 36 7 (fun j => match j with | 0 => .int .i64 x.k | 1 => .int .i64 x.n | 2 => .string x.s | 3 => .int .i64 x.N | 4 => .bool x.m | 5 => .int .i64 x.A | _ => .int .i64 x.B)) : At3 w0 W k bx bs x := by
  obtain ⟨F, XS, FL, ht⟩ := h
  have g := ht.sm.guard hb (g := some bs) fun z hz => by injection hz with hz; have := hx.lt; omega
  exact ⟨⟨F, XS, FL, g.less fun z hz => .inr (by rw [hz]), ht.xs, ht.fl, ht.pe, ht.cl⟩, hx⟩
/-- A new sketch of one counter to which one value is told. -/
theorem one_told {w1 : World} {b : Nat} {F : Ft} (h : SkO w1 b 1 F []) (v : Vk) :
    Calls Try.prog 8 #[.pointer (some ⟨b, 0, none⟩), v.v, .int .i64 5] w1 fun e w2 => e = .returned (.int .i64 0) ∧ (Calls Try.prog 12 #[.pointer (some ⟨b, 0, none⟩)] w2 fun e w' => e = .returned (.int .i64 5) ∧ w' = w2) ∧
      (Calls Try.prog 11 #[.pointer (some ⟨b, 0, none⟩)] w2 fun e w' => ∃ a c, e = .returned (.slice a 1 c) ∧ Below w2.heap.size w2 w') ∧ Ky (foot b F) w1 w2 := by
  obtain ⟨h1, hn⟩ := sk_empty h
  refine (add_det ⟨h1, by simp [Go.Proofs.Ytgmfbjehdcdioaa.tot]⟩ (by omega) v 5).mono ?_
  rintro e w2 (⟨h, _⟩ | ⟨_, h, _⟩ | ⟨_, _, rfl, F', fl', ⟨⟨L, hO, hL, hn'⟩, _⟩, hA, h6⟩)
  · omega
  · simp [Go.Proofs.Ytgmfbjehdcdioaa.tot] at h
  have ht5 : Go.Proofs.Ytgmfbjehdcdioaa.tot ([] ++ [(cleanK v, (5 : Int).toNat)]) = 5 := by simp [Go.Proofs.Ytgmfbjehdcdioaa.tot]
  have hlen : F'.n = 1 := by
    rcases h6 with ⟨h6, _⟩ | ⟨_, h6⟩
    · omega
    · have ht0 : tolds F.E F.n = [] := by rw [hn]; rfl
      rw [ht0] at h6
      rcases h6 with ⟨c, rest, p, _⟩ | ⟨_, _, _, p⟩ | ⟨_, g, _⟩
      · exact absurd p.length_eq (by simp)
      · have := p.length_eq
        rw [tolds_len] at this
        simpa using this
      · simp at g
  refine ⟨rfl, ?_, ?_, hA.1⟩
  · have := total_any hO
    rw [ht5] at this
    exact this
  · refine (all_any hO (by omega)).mono ?_
    rintro e w' ⟨S, ys, rfl, hAl⟩
    obtain ⟨a, c, hS⟩ := hAl.own.slice
    have hl := hAl.perm.length_eq
    rw [tolds_len, hlen] at hl
    rw [hl] at hS
    exact ⟨a, c, by rw [hS], hAl.bel⟩
end Go.Proofs.Ytgmfbjehdcdioaa

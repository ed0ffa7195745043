import Derived.Test.YtgmfbjehdcdioaaOjG
set_option linter.unusedSimpArgs false
set_option linter.unusedVariables false
set_option maxRecDepth 100000
namespace Go.Proofs.Ytgmfbjehdcdioaa
open Go.RowKit Go.Sort

/-- The law's state between two rows. -/
def At2 (w0 w : World) (k : Nat) (bx : Nat → Nat) : Prop := ∃ F XS FL, Tw w0 w k bx F XS FL (fun _ => False)
/-- The same, with the row's box. -/
def At3 (w0 w : World) (k : Nat) (bx : Nat → Nat) (bs : Nat) (x : Cm) : Prop := (∃ F XS FL, Tw w0 w k bx F XS FL (fun z => z = bs)) ∧ w.rowIs bs 36 7 (fun j => match j with | 0 => .int .i64 x.k | 1 => .int .i64 x.n | 2 => .string x.s | 3 => .int .i64 x.N | 4 => .bool x.m | 5 => .int .i64 x.A | _ => .int .i64 x.B)
theorem At3.later {w0 w w' : World} {k : Nat} {bx : Nat → Nat} {bs : Nat} {x : Cm} (h : At3 w0 w k bx bs x) (hb : Below w.heap.size w w') : At3 w0 w' k bx bs x := by
  obtain ⟨⟨F, XS, FL, h1⟩, h2⟩ := h
  exact ⟨⟨F, XS, FL, h1.later hb⟩, rowIs_later h2 hb⟩
theorem bxf (a b c : Nat) : ∃ bx : Nat → Nat, bx 0 = a ∧ bx 1 = b ∧ bx 2 = c := ⟨fun i => if i = 0 then a else if i = 1 then b else c, rfl, rfl, rfl⟩
theorem At2.start {w0 w1 w2 w3 : World} {k a b c : Nat} {Fa Fb Fc : Ft} (h1 : SkO w1 a k Fa []) (b1 : Below w0.heap.size w0 w1) (f1 : ∀ z, foot a Fa z → w0.heap.size ≤ z) (h2 : SkO w2 b k Fb []) (b2 : Below w1.heap.size w1 w2) (f2 : ∀ z, foot b Fb z → w1.heap.size ≤ z) (h3 : SkO w3 c k Fc []) (b3 : Below w2.heap.size w2 w3) (f3 : ∀ z, foot c Fc z → w2.heap.size ≤ z)
    {bx : Nat → Nat} (e0 : bx 0 = a) (e1 : bx 1 = b) (e2 : bx 2 = c) : At2 w0 w3 k bx := by
  have s1 := b1.size
  have s2 := b2.size
  have s3 := b3.size
  have l1 : ∀ z, foot a Fa z → z < w1.heap.size := fun z hz => h1.lt hz
  have l2 : ∀ z, foot b Fb z → z < w2.heap.size := fun z hz => h2.lt hz
  obtain ⟨g1, n1⟩ := sk_empty h1
  obtain ⟨g2, n2⟩ := sk_empty h2
  obtain ⟨g3, n3⟩ := sk_empty h3
  have ht : tot ([] : List (Vk × Nat)) ≤ 4611686018427387904 := by simp [tot]
  obtain ⟨F, q0, q1, q2⟩ : ∃ F : Nat → Ft, F 0 = Fa ∧ F 1 = Fb ∧ F 2 = Fc := ⟨fun i => if i = 0 then Fa else if i = 1 then Fb else Fc, rfl, rfl, rfl⟩
  have hft : ∀ i, i < 3 → ∀ z, foot (bx i) (F i) z → (i = 0 ∧ w0.heap.size ≤ z ∧ z < w1.heap.size) ∨ (i = 1 ∧ w1.heap.size ≤ z ∧ z < w2.heap.size) ∨ (i = 2 ∧ w2.heap.size ≤ z) := fun i hi z hz => by
    match i, hi with
    | 0, _ => rw [e0, q0] at hz; exact .inl ⟨rfl, f1 z hz, l1 z hz⟩
    | 1, _ => rw [e1, q1] at hz; exact .inr (.inl ⟨rfl, f2 z hz, l2 z hz⟩)
    | 2, _ => rw [e2, q2] at hz; exact .inr (.inr ⟨rfl, f3 z hz⟩)
  refine ⟨F, fun _ => [], fun _ => 0, ⟨⟨below_step (below_step b1 b2) b3, fun i hi => ⟨?_, ht⟩, fun i hi z hz => ⟨?_, fun h => h⟩, fun i j hi hj hn z hz hz' => ?_, fun z hz => hz.elim⟩, rfl, rfl, ?_, fun q hq => by cases hq⟩⟩
  · match i, hi with
    | 0, _ => rw [e0, q0]; exact (g1.later b2).later b3
    | 1, _ => rw [e1, q1]; exact g2.later b3
    | 2, _ => rw [e2, q2]; exact g3
  · rcases hft i hi z hz with h | h | h <;> omega
  · have h5 := hft i hi z hz
    have h6 := hft j hj z hz'
    omega
  · rw [q0, q1]
    have t1 : tolds Fa.E Fa.n = [] := by rw [n1]; rfl
    have t2 : tolds Fb.E Fb.n = [] := by rw [n2]; rfl
    rw [t1, t2]

/-- The part with Merge, under way: S: the list that is to be spoilt; T: its copy. -/
structure Pm (w0 w : World) (k : Nat) (bx : Nat → Nat) (bs : Nat) (x : Cm) (F1 : Ft) (X1 : List (Vk × Nat)) (f1 : Nat) (pr : Nat → Prop) (T : Value) (ys : List Cn) : Prop where
  tw : ∃ F XS FL, Tw w0 w k bx F XS FL pr ∧ F 1 = F1 ∧ XS 1 = X1 ∧ FL 1 = f1
  box : w.rowIs bs 36 7 (fun j => match j with | 0 => .int .i64 x.k | 1 => .int .i64 x.n | 2 => .string x.s | 3 => .int .i64 x.N | 4 => .bool x.m | 5 => .int .i64 x.A | _ => .int .i64 x.B)
  cop : RdF w T ys
/-- What is known of the blocks of S and T. -/
structure Pb (w0 : World) (bs : Nat) (pr : Nat → Prop) (S T : Value) : Prop where
  b : pr bs
  s : ∀ g, S.ownBlock = some g → pr g ∧ w0.heap.size ≤ g ∧ g ≠ bs ∧ T.ownBlock ≠ some g
  t : ∀ g, T.ownBlock = some g → pr g
theorem Pm.third {w0 w w' : World} {k : Nat} {bx : Nat → Nat} {bs : Nat} {x : Cm} {F1 : Ft} {X1 : List (Vk × Nat)} {f1 : Nat} {pr : Nat → Prop} {S T : Value} {ys : List Cn} (h : Pm w0 w k bx bs x F1 X1 f1 pr T ys) (hb : Pb w0 bs pr S T) {F : Nat → Ft} {XS : Nat → List (Vk × Nat)} {FL : Nat → Nat} (ht : Tw w0 w k bx F XS FL pr) (e1 : F 1 = F1) (e2 : XS 1 = X1) (e3 : FL 1 = f1)
    {F2 : Ft} {X2 : List (Vk × Nat)} {f2 : Nat} (hs : Sm w0 w' k bx (up F 2 F2) (up XS 2 X2) (up FL 2 f2) pr) (hp : ∀ z, pr z → w'.heap[z]? = w.heap[z]?) : Pm w0 w' k bx bs x F1 X1 f1 pr T ys := by
  have n1 : (1 : Nat) ≠ 2 := by decide
  refine ⟨⟨_, _, _, ht.third hs, ?_, ?_, ?_⟩, h.box.of_block (hp bs hb.b), h.cop.keep fun g hg => hp g (hb.t g hg)⟩
  · rw [up_ne n1]; exact e1
  · rw [up_ne n1]; exact e2
  · rw [up_ne n1]; exact e3
/-- q.Merge(p), where it is not too much. -/
theorem Pm.merge {w0 w : World} {k : Nat} {bx : Nat → Nat} {bs : Nat} {x : Cm} {F1 : Ft} {X1 : List (Vk × Nat)} {f1 : Nat} {pr : Nat → Prop} {S T : Value} {ys : List Cn} (h : Pm w0 w k bx bs x F1 X1 f1 pr T ys) (hb : Pb w0 bs pr S T) (hs : OwnF w 0 S ys) (hk : k ≤ 1024) :
    (Calls Try.prog 6 #[.pointer (some ⟨bx 2, 0, none⟩), .pointer (some ⟨bx 1, 0, none⟩)] w fun e w' => e = .returned (.int .i64 0) ∧ Pm w0 w' k bx bs x F1 X1 f1 pr T ys ∧ OwnF w' 0 S ys) ∨
    ∃ T1 T2 : Nat, 4611686018427387904 < T2 + T1 ∧ (Calls Try.prog 6 #[.pointer (some ⟨bx 2, 0, none⟩), .pointer (some ⟨bx 1, 0, none⟩)] w fun e w' => e = .returned (.int .i64 3) ∧ Pm w0 w' k bx bs x F1 X1 f1 pr T ys ∧ OwnF w' 0 S ys ∧
      (Calls Try.prog 12 #[.pointer (some ⟨bx 1, 0, none⟩)] w' fun e w'' => e = .returned (.int .i64 T1) ∧ w'' = w') ∧ (Calls Try.prog 12 #[.pointer (some ⟨bx 2, 0, none⟩)] w' fun e w'' => e = .returned (.int .i64 T2) ∧ w'' = w')) := by
  obtain ⟨F, XS, FL, ht, e1, e2, e3⟩ := h.tw
  have h2 := ht.sm.sk 2 (by decide)
  have h1 := ht.sm.sk 1 (by decide)
  have hm := merge_any (h2.1.o h2.2) (h1.1.o h1.2) hk
  by_cases hle : tot (XS 2) + tot (XS 1) ≤ 4611686018427387904
  · left
    refine hm.mono ?_
    rintro e w' (⟨g1, _⟩ | ⟨_, rfl, F', ⟨⟨fl', L', q1, q2, q3⟩, q4⟩, g3, g4⟩)
    · omega
    · have hbb : foot (bx 2) (F 2) (bx 2) := .inl rfl
      obtain ⟨o1, o2⟩ := ht.sm.op (p := 2) (by decide) (F' := F') (X' := XS 2 ++ XS 1) (fl' := fl') ⟨⟨L', q1, q2, q3⟩, q4⟩ (g3.less fun i _ hi => by rw [hi]; exact hbb) fun z hz => by
        rcases g4 z hz with g | g
        · exact .inl (by rw [g]; exact hbb)
        · exact .inr g
      exact ⟨rfl, h.third hb ht e1 e2 e3 o1 o2, own_keep hs fun g hg => o2 g (hb.s g hg).1⟩
  · right
    refine ⟨tot (XS 1), tot (XS 2), by omega, hm.mono ?_⟩
    rintro e w' (⟨_, rfl, g2⟩ | ⟨g1, _⟩)
    · have ht' := ht.later g2
      exact ⟨rfl, ⟨⟨F, XS, FL, ht', e1, e2, e3⟩, rowIs_later h.box g2, h.cop.later g2⟩, own_later hs g2, ht'.sm.tot (by decide), ht'.sm.tot (by decide)⟩
    · omega
/-- q.Add. -/
theorem Pm.add {w0 w : World} {k : Nat} {bx : Nat → Nat} {bs : Nat} {x : Cm} {F1 : Ft} {X1 : List (Vk × Nat)} {f1 : Nat} {pr : Nat → Prop} {S T : Value} {ys : List Cn} (h : Pm w0 w k bx bs x F1 X1 f1 pr T ys) (hb : Pb w0 bs pr S T) (hs : OwnF w 0 S ys) (hk : k ≤ 1024) (v : Vk) (N : Int) :
    Calls Try.prog 8 #[.pointer (some ⟨bx 2, 0, none⟩), .agg #[.int .i64 v.k, .int .i64 v.n, .string v.s], .int .i64 N] w fun e w' => ∃ er : Int, e = .returned (.int .i64 er) ∧ Pm w0 w' k bx bs x F1 X1 f1 pr T ys ∧ OwnF w' 0 S ys := by
  obtain ⟨F, XS, FL, ht, e1, e2, e3⟩ := h.tw
  refine (ht.sm.add hk (p := 2) (by decide) v N).mono ?_
  rintro e w' ⟨rfl, F', X', fl', o1, o2, _⟩
  exact ⟨_, rfl, h.third hb ht e1 e2 e3 o1 o2, own_keep hs fun g hg => o2 g (hb.s g hg).1⟩
/-- S is spoilt. -/
theorem Pm.spoil {w0 w : World} {k : Nat} {bx : Nat → Nat} {bs : Nat} {x : Cm} {F1 : Ft} {X1 : List (Vk × Nat)} {f1 : Nat} {pr : Nat → Prop} {S T : Value} {ys : List Cn} (h : Pm w0 w k bx bs x F1 X1 f1 pr T ys) (hb : Pb w0 bs pr S T) (hs : OwnF w 0 S ys) (hl : ys.length ≤ 1024) :
    Calls Try.prog 13 #[S, .agg #[.int .i64 0, .int .i64 0, .string ⟨#[]⟩, .int .i64 9999, .int .i64 0]] w fun e w' => e = .returned (.tuple #[]) ∧ Pm w0 w' k bx bs x F1 X1 f1 pr T ys := by
  obtain ⟨F, XS, FL, ht, e1, e2, e3⟩ := h.tw
  refine (spoilt_any hs hl ⟨0, 0, ⟨#[]⟩, 9999, 0⟩).mono ?_
  rintro e w' ⟨rfl, hg⟩
  refine ⟨rfl, ⟨F, XS, FL, ⟨ht.sm.spoil hg fun z hz => ⟨(hb.s z hz).1, (hb.s z hz).2.1⟩, ht.xs, ht.fl, ht.pe, ht.cl⟩, e1, e2, e3⟩, h.box.of_block (hg.block bs h.box.lt fun e => (hb.s bs e.symm).2.2.1 rfl), h.cop.keep fun g hg' => ?_⟩
  obtain ⟨L, hO, hL, hn⟩ := (ht.sm.sk 1 (by decide)).1
  refine hg.block g (ht.sm.pl g (hb.t g hg')) fun e => (hb.s g e.symm).2.2.2 hg'
/-- sameFound(p.All(), was). -/
theorem Pm.same {w0 w w1 : World} {k : Nat} {bx : Nat → Nat} {bs : Nat} {x : Cm} {F1 : Ft} {X1 : List (Vk × Nat)} {f1 : Nat} {pr : Nat → Prop} {S S2 T : Value} {ys ys2 : List Cn} (h : Pm w0 w k bx bs x F1 X1 f1 pr T ys) (hb : Pb w0 bs pr S T) (hp : ys.Perm (tolds F1.E F1.n)) (hr : ys.Pairwise fun x y => ordC x y ≤ 0) (hl : ys.length ≤ 1024) (h2 : AlA w w1 S2 F1.n F1.E ys2) :
    Calls Try.prog 14 #[S2, T] w1 fun e w' => e = .returned (.bool true) ∧ At3 w0 w' k bx bs x := by
  obtain ⟨F, XS, FL, ht, e1, e2, e3⟩ := h.tw
  obtain ⟨L, hO, hL, hn⟩ := (ht.sm.sk 1 (by decide)).1
  rw [e1] at hL
  have hcl : ClX (XS 1) := by rw [← ht.xs]; exact ht.cl
  have he : ys2 = ys := all_same hL hcl (List.Perm.refl _) h2.perm hp h2.rises hr
  subst he
  refine (same_any h2.own.rd (h.cop.later h2.bel) (by omega)).mono ?_
  rintro e w' ⟨rfl, hbl⟩
  have hbb := below_step h2.bel hbl
  exact ⟨rfl, ⟨F, XS, FL, (ht.later hbb).sm.less fun z hz => by rw [hz]; exact hb.b, ht.xs, ht.fl, ht.pe, ht.cl⟩, rowIs_later h.box hbb⟩
/-- p.All() and its copy. -/
theorem At3.copy {w0 w w1 w2 : World} {k : Nat} {bx : Nat → Nat} {bs : Nat} {x : Cm} {F : Nat → Ft} {XS : Nat → List (Vk × Nat)} {FL : Nat → Nat} {S T : Value} {ys : List Cn} (ht : Tw w0 w k bx F XS FL (fun z => z = bs)) (hx : w.rowIs bs 36 7 (fun j => match j with | 0 => .int .i64 x.k | 1 => .int .i64 x.n | 2 => .string x.s | 3 => .int .i64 x.N | 4 => .bool x.m | 5 => .int .i64 x.A | _ => .int .i64 x.B)) (h1 : AlA w w1 S (F 1).n (F 1).E ys) (h2 : OwnF w2 w1.heap.size T ys) (hb : Below w1.heap.size w1 w2) :
    Pm w0 w2 k bx bs x (F 1) (XS 1) (FL 1) (fun z => (z = bs ∨ S.ownBlock = some z) ∨ T.ownBlock = some z) T ys ∧ Pb w0 bs (fun z => (z = bs ∨ S.ownBlock = some z) ∨ T.ownBlock = some z) S T ∧ OwnF w2 0 S ys := by
  have g1 := ht.sm.guard h1.bel (g := S.ownBlock) fun z hz => World.ownsRow.lt h1.own z hz
  have g2 := g1.guard hb (g := T.ownBlock) fun z hz => World.ownsRow.lt h2 z hz
  refine ⟨⟨⟨F, XS, FL, ⟨g2, ht.xs, ht.fl, ht.pe, ht.cl⟩, rfl, rfl, rfl⟩, rowIs_later (rowIs_later hx h1.bel) hb, h2.rd⟩, ⟨.inl (.inl rfl), fun g hg => ⟨.inl (.inr hg), ?_, ?_, fun e => ?_⟩, fun g hg => .inr hg⟩, own_zero (own_later h1.own hb)⟩
  · exact Nat.le_trans ht.sm.bel.size (World.ownsRow.lt h1.own g hg).1
  · have := (World.ownsRow.lt h1.own g hg).1
    have := hx.lt
    omega
  · have := (World.ownsRow.lt h1.own g hg).2
    have := (World.ownsRow.lt h2 g e).1
    omega

end Go.Proofs.Ytgmfbjehdcdioaa

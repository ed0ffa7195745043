import Derived.Test.YtcbenpodohjbiaaGreatSpP
import Derived.Test.YtcbenpodohjbiaaGreatSpX
set_option linter.unusedSimpArgs false
set_option linter.unusedVariables false
set_option maxRecDepth 100000
namespace Go.Proofs.YtcbenpodohjbiaaGreat
open Go.RowKit Go.Sort

/-- The cells of a sorter. -/
structure Qx (w : World) (q y B : Nat) (bu : Int) (vS : Value) : Prop where
  tg : Tg 61 w q
  fr : ∀ i, w.frozen? ⟨q, i, none⟩ = false
  c0 : w.cell? ⟨q, 0, none⟩ = some (.pointer (some ⟨y, 0, none⟩))
  c1 : w.cell? ⟨q, 1, none⟩ = some (.func (.func 32) #[] #[.pointer (some ⟨B, 0, none⟩)])
  c2 : w.cell? ⟨q, 2, none⟩ = some (.bool false)
  c3 : w.cell? ⟨q, 3, none⟩ = some (.int .i64 bu)
  c4 : w.cell? ⟨q, 4, none⟩ = some vS
theorem Qx.ky {G : Nat → Prop} {w w' : World} {q y B : Nat} {bu : Int} {vS : Value} (h : Qx w q y B bu vS) (hk : Ky G w w') (hn : ¬ G q) : Qx w' q y B bu vS :=
  ⟨hk.tg h.tg hn, fun i => (hk.frozen h.tg.lt hn).trans (h.fr i), hk.cell h.c0 hn, hk.cell h.c1 hn, hk.cell h.c2 hn, hk.cell h.c3 hn, hk.cell h.c4 hn⟩
theorem Qx.set {w : World} {q y B : Nat} {bu : Int} {vS : Value} (h : Qx w q y B bu vS) (x : Value) : Qx (w.setCell ⟨q, 4, none⟩ x) q y B bu x := by
  obtain ⟨q1, q2, q3, q4, q5, q6, q7⟩ := h
  refine ⟨q1.set _ _ _, fun i => by rw [World.frozen?_setCell]; exact q2 i, ?_, ?_, ?_, ?_, ?_⟩ <;> simp [go_sem, q3, q4, q5, q6, q7]
/-- Numbers of runs in a list of the call's own. -/
def OwnN (w : World) (v : Value) (ids : List Nat) : Prop := w.ownsRow 0 3 1 v ids.length (ids.map fun i => Value.int .i64 (i : Nat))
/-- A sorter, and its yard. -/
def Sw (w : World) (b y m q B : Nat) (ks : List (Int × Bool)) (bu : Int) (Y : Yv) (op : Option Nat) (ids : List Nat) (F : Nat → Prop) : Prop :=
  ¬ F y ∧ F q ∧ ∃ F0 vS, (∀ k, F0 k → F k) ∧ ¬ F0 q ∧ (∀ g, vS.ownBlock = some g → F g ∧ ¬ F0 g) ∧ Yw w b y m Y op F0 ∧ Qx w q y B bu vS ∧ OwnN w vS ids ∧ OrdF w B ks
theorem Sw.ky {G F : Nat → Prop} {w w' : World} {b y m q B : Nat} {ks : List (Int × Bool)} {bu : Int} {Y : Yv} {op : Option Nat} {ids : List Nat} (h : Sw w b y m q B ks bu Y op ids F) (hk : Ky G w w') (hn : ∀ k, G k → ¬ F k) (hy : ¬ G y) : Sw w' b y m q B ks bu Y op ids F := by
  obtain ⟨h1, h2, F0, vS, h3, h4, h5, h6, h7, h8, h9⟩ := h
  exact ⟨h1, h2, F0, vS, h3, h4, h5, h6.ky hk (fun k g f => hn k g (h3 k f)) hy, h7.ky hk (fun g => hn q g h2), own_ky h8 hk (fun g e k => hn g k (h5 g e).1), h9.ky hk⟩
theorem Sw.later {F : Nat → Prop} {w w' : World} {b y m q B : Nat} {ks : List (Int × Bool)} {bu : Int} {Y : Yv} {op : Option Nat} {ids : List Nat} (h : Sw w b y m q B ks bu Y op ids F) (hb : Below w.heap.size w w') : Sw w' b y m q B ks bu Y op ids F := h.ky (G := fun _ => False) (Ky.of_below hb) (fun _ => False.elim) id
theorem Yw.tgy {F : Nat → Prop} {w : World} {b y m : Nat} {Y : Yv} {op : Option Nat} (h : Yw w b y m Y op F) : Tg 82 w y := by
  obtain ⟨_, _, _, _, _, _, _, h6, _⟩ := h
  exact h6.tg
def So (w w' : World) (b y m q B : Nat) (ks : List (Int × Bool)) (bu : Int) (Y' : Yv) (op : Option Nat) (ids : List Nat) (F : Nat → Prop) : Prop := ∃ F', Nw F F' w ∧ (∀ k, F k → F' k) ∧ Sw w' b y m q B ks bu Y' op ids F' ∧ Ky F w w'
theorem So.trans {w w1 w2 : World} {b y m q B : Nat} {ks : List (Int × Bool)} {bu : Int} {Y1 Y2 : Yv} {op1 op2 : Option Nat} {i1 i2 : List Nat} {F : Nat → Prop} (h : So w w1 b y m q B ks bu Y1 op1 i1 F) (h2 : ∀ F', Sw w1 b y m q B ks bu Y1 op1 i1 F' → So w1 w2 b y m q B ks bu Y2 op2 i2 F') : So w w2 b y m q B ks bu Y2 op2 i2 F := by
  obtain ⟨F1, a1, a2, a3, a4⟩ := h
  obtain ⟨F2, b1, b2, b3, b4⟩ := h2 F1 a3
  exact ⟨F2, a1.trans b1 a4.size, fun k hk => b2 k (a2 k hk), b3, a4.trans b4 a1⟩
/-- What the yard beneath has done. -/
theorem Sw.under {F F0 : Nat → Prop} {w w' : World} {b y m q B : Nat} {ks : List (Int × Bool)} {bu : Int} {Y' : Yv} {op : Option Nat} {ids : List Nat} {vS : Value} (h1 : ¬ F y) (h2 : F q) (h3 : ∀ k, F0 k → F k) (h4 : ¬ F0 q) (h5 : ∀ g, vS.ownBlock = some g → F g ∧ ¬ F0 g) (h7 : Qx w q y B bu vS) (h8 : OwnN w vS ids) (h9 : OrdF w B ks) (hty : Tg 82 w y) (hY : Yo w w' b y m Y' op F0) : So w w' b y m q B ks bu Y' op ids F := by
  obtain ⟨F1, a1, a2, a3, a4⟩ := hY
  refine ⟨fun k => F k ∨ F1 k, fun k hk => ?_, fun k hk => .inl hk, ⟨fun e => ?_, .inl h2, F1, vS, fun k hk => .inr hk, fun e => ?_, fun g e => ⟨.inl (h5 g e).1, fun k => ?_⟩, a3, h7.ky a4 h4, own_ky h8 a4 (fun g e => (h5 g e).2), h9.ky a4⟩, a4.mono h3⟩
  · rcases hk with hk | hk
    · exact .inl hk
    · exact (a1 k hk).imp (h3 k) id
  · rcases e with e | e
    · exact h1 e
    · exact a3.1 e
  · rcases a1 q e with r | r
    · exact h4 r
    · have := h7.tg.lt; omega
  · rcases a1 g k with r | r
    · exact (h5 g e).2 r
    · have := (own_tg h8 e).lt; omega

set_option maxHeartbeats 2000000 in
/-- sorted (61), where rows may stand several times. -/
theorem sorted_any {F : Nat → Prop} {w : World} {b y m q B : Nat} {ks : List (Int × Bool)} {bu : Int} {Y : Yv} {op : Option Nat} {ids : List Nat} {v : Value} {rs : List (List Val)} (h : Sw w b y m q B ks bu Y op ids F) (hL : Lst w v rs) (hn : rs.length ≤ 1048576) (hv : ∀ g, v.ownBlock = some g → ¬ F g) :
    Calls Tryz.prog 61 #[.pointer (some ⟨q, 0, none⟩), v] w fun e w' => e = .returned v ∧ ∃ rs', rs'.Perm rs ∧ rs'.Pairwise (fun x y => ordG ks x y ≤ 0) ∧ Lst w' v rs' ∧ Sw w' b y m q B ks bu Y op ids F ∧ Ky (fun k => v.ownBlock = some k) w w' := by
  have hS := h
  obtain ⟨h1, h2, F0, vS, h3, h4, h5, h6, h7, h8, h9⟩ := h
  obtain ⟨a, c, rfl⟩ := hL.form
  obtain ⟨W, hW⟩ : ∃ W, w.alloc (.cells #[.pointer (some ⟨q, 0, none⟩)] 86) = W := ⟨_, rfl⟩
  have hbW : Below w.heap.size w W := by rw [← hW]; exact below_alloc (Below.refl _ _) _
  have e0 : W.cell? ⟨w.heap.size, 0, none⟩ = some (.pointer (some ⟨q, 0, none⟩)) := by rw [← hW]; simp [go_sem]
  have c1 := clater h7.c1 hbW
  have hk0 : Ky (fun _ => False) w W := Ky.of_below hbW
  have HR := hide (rsort_any (hL.later hbW) (h9.ky hk0) hn)
  have nw : ¬ (Value.slice a rs.length c).ownBlock = some w.heap.size := fun e => by have := (hL.tg e).lt; omega
  have nq : ¬ (Value.slice a rs.length c).ownBlock = some q := fun e => hv q e h2
  have ny : ¬ (Value.slice a rs.length c).ownBlock = some y := fun e => (hL.tg e).ne h6.tgy (by decide) rfl
  have HQ := hide (h7.ky hk0 id)
  have HS := hide (hS.later hbW)
  have HV := hide hv
  clear hS h6 h7 h8 h9 hL hv h5 h3
  go_enter Tryz.func61, Tryz.ntmps61
  go_wp2_with (first | (go_at_call 93; refine (unhide HR).mono ?_; rintro _ w1 ⟨rfl, rs', p1, p2, p3, p4⟩; have d0 := p4.cell e0 nw; have d2 := p4.cell (unhide HQ).c2 nq; have HP1 := hide p1; have HP2 := hide p2; have HP3 := hide p3; have HP4 := hide p4; clear p1 p2 p3 p4))
  go_ret
  exact ⟨rfl, rs', unhide HP1, unhide HP2, unhide HP3, (unhide HS).ky (unhide HP4) (unhide HV) ny, (Ky.of_below hbW).trans (unhide HP4) (Nw.refl _ _)⟩
end Go.Proofs.YtcbenpodohjbiaaGreat

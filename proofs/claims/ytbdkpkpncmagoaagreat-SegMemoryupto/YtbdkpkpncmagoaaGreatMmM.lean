import Derived.Test.YtbdkpkpncmagoaaGreatMmB
import Derived.Test.YtbdkpkpncmagoaaGreatMmF
import Derived.Test.YtbdkpkpncmagoaaGreatMmG
import Derived.Test.YtbdkpkpncmagoaaGreatMmI
import Derived.Test.YtbdkpkpncmagoaaGreatTabB
import Derived.Test.YtbdkpkpncmagoaaGreatMmK
import Derived.Test.YtbdkpkpncmagoaaGreatRdA
set_option linter.unusedSimpArgs false
set_option linter.unusedVariables false
set_option maxRecDepth 100000
namespace Go.Proofs.YtbdkpkpncmagoaaGreat
open Go.RowKit Go.Sort

/-- spoiltRows, under way: the rows' list is as it was, the rows from i on are still their own. -/
structure SrI (w wr : World) (base : Nat) (v : Value) (n m i : Nat) (cs : List Value) : Prop where
  own : wr.ownsRow base 34 1 v n cs
  row : ∀ (j : Nat) u, cs[j]? = some u → ∃ g zs, u = .slice (some ⟨g, 0, none⟩) m m ∧ (i ≤ j → wr.ownsRow base 42 3 u m zs) ∧ g ≠ v.ownBlock.getD (g + 1)
  ap : ∀ (j j' : Nat) u u', j < j' → cs[j]? = some u → cs[j']? = some u' → u.ownBlock ≠ u'.ownBlock
  ky : Ky (fun q => base ≤ q) w wr
theorem SrI.start {w : World} {base : Nat} {v : Value} {n m : Nat} {cs : List Value} (h1 : w.ownsRow base 34 1 v n cs) (h2 : ∀ (j : Nat) u, cs[j]? = some u → ∃ g zs, u = .slice (some ⟨g, 0, none⟩) m m ∧ w.ownsRow base 42 3 u m zs) (h3 : ∀ (j j' : Nat) u u', j < j' → cs[j]? = some u → cs[j']? = some u' → u.ownBlock ≠ u'.ownBlock) : SrI w w base v n m 0 cs := by
  refine ⟨h1, fun j u hu => ?_, h3, Ky.of_below (Below.refl _ _)⟩
  obtain ⟨g, zs, e, ho⟩ := h2 j u hu
  refine ⟨g, zs, e, fun _ => ho, fun hg => ?_⟩
  cases hv : v.ownBlock with
  | none => rw [hv] at hg; simp at hg
  | some q =>
    rw [hv] at hg
    simp at hg
    subst hg
    exact own_diff ho h1 (by decide) g (by rw [e]; rfl) hv
theorem SrI.later {w wr w' : World} {base : Nat} {v : Value} {n m i : Nat} {cs : List Value} (h : SrI w wr base v n m i cs) (hb : Below wr.heap.size wr w') : SrI w w' base v n m i cs := by
  refine ⟨own_later h.own hb, fun j u hu => ?_, h.ap, h.ky.trans (Ky.of_below hb)⟩
  obtain ⟨g, zs, e, ho, hn⟩ := h.row j u hu
  exact ⟨g, zs, e, fun hj => own_later (ho hj) hb, hn⟩
theorem SrI.step {w wr w' : World} {base g : Nat} {v : Value} {n m i : Nat} {cs : List Value} (h : SrI w wr base v n m i cs) (hu : cs[i]? = some (.slice (some ⟨g, 0, none⟩) m m)) (hg : wr.grownBy w' (some g)) : SrI w w' base v n m (i + 1) cs := by
  obtain ⟨g1, zs1, e1, ho1, hn1⟩ := h.row i _ hu
  injection e1 with e1
  injection e1 with e1
  injection e1 with e1
  subst e1
  have hbase := (World.ownsRow.lt (ho1 (Nat.le_refl _)) g rfl).1
  refine ⟨own_keep h.own fun q hq => hg.block q (World.ownsRow.lt h.own q hq).2 fun e => ?_, fun j u hu' => ?_, h.ap, h.ky.trans (Ky.of_grown hg fun q hq => by injection hq with hq; rw [← hq]; exact hbase)⟩
  · injection e with e
    subst e
    rw [hq] at hn1
    exact hn1 rfl
  · obtain ⟨g2, zs2, e2, ho2, hn2⟩ := h.row j u hu'
    refine ⟨g2, zs2, e2, fun hj => own_keep (ho2 (by omega)) fun q hq => hg.block q (World.ownsRow.lt (ho2 (by omega)) q hq).2 fun e => ?_, hn2⟩
    have := h.ap i j _ u (by omega) hu hu'
    rw [hq, e] at this
    exact this rfl

set_option maxHeartbeats 4000000 in
theorem spoiltrows_any {w : World} {base n : Nat} {v : Value} (h : RowsO w base v n) (hl : n ≤ 1048576) : Calls Tryz.prog 9 #[v] w fun e w' => e = .returned (.tuple #[]) ∧ Ky (fun q => base ≤ q) w w' := by
  obtain ⟨m, cs, hm, h1, h2, h3⟩ := h
  have HS0 := hide (SrI.start h1 h2 h3)
  have hcl : cs.length = n := by have := h1.1; omega
  have HCL := hide hcl
  obtain ⟨aV, cV, hV⟩ := own_slice h1
  subst hV
  clear h1 h2 h3 hcl
  have K10 := hide mark_any
  go_enter Tryz.func9, Tryz.ntmps9
  go_wp2_with fail
  go_loopw [6] (fun s6 wr => ∃ i : Nat, s6 = .int .i64 (i : Int) ∧ i ≤ n ∧ Hid (SrI w wr base (.slice aV n cV) n m i cs)) (fun s _ => n - (intOf s).toNat)
  case atStart => exact ⟨0, rfl, Nat.zero_le _, HS0⟩
  case round =>
    obtain ⟨i, rfl, hin, HS⟩ := hrel
    clear HS0
    by_cases hi : i < n
    · have hx : cs[i]? = some (cs[i]'(by rw [unhide HCL]; exact hi)) := List.getElem?_eq_getElem _
      obtain ⟨u, hu⟩ : ∃ u, cs[i]? = some u := ⟨_, hx⟩
      clear hx
      obtain ⟨g, zs, e, ho, hn⟩ := (unhide HS).row i u hu
      subst e
      obtain ⟨gV, hgV⟩ : ∃ gV, aV = some ⟨gV, 0, none⟩ := by
        rcases (unhide HS).own.2 with ⟨_, h0⟩ | ⟨g, cap, cur, e, _⟩
        · omega
        · injection e with e _ _; exact ⟨g, e⟩
      subst hgV
      have c0 : wr.cell? ⟨gV, i, none⟩ = some (.slice (some ⟨g, 0, none⟩) m m) := (World.ownsRow.cellAt (unhide HS).own i (by omega)).trans hu
      have HU := hide hu
      have HCH : Hid (∀ w1, Below wr.heap.size wr w1 → Calls Tryz.prog 13 #[.slice (some ⟨g, 0, none⟩) m m, .agg #[.int .i64 2, .int .i64 0, .string ⟨#[115, 112, 111, 105, 108, 116]⟩]] w1 fun e w2 => e = .returned (.tuple #[]) ∧ SrI w w2 base (.slice (some ⟨gV, 0, none⟩) n cV) n m (i + 1) cs) := fun w1 hb => by
        refine (spoiltV (own_later (ho (Nat.le_refl _)) hb) (by omega) markV).mono ?_
        rintro e w2 ⟨rfl, hg⟩
        exact ⟨rfl, ((unhide HS).later hb).step (unhide HU) hg⟩
      have i1 : (i : Int) < (n : Int) := by omega
      clear ho hn hu
      go_wp2_with (first
        | (go_at_call 14; refine (unhide K10 _).mono ?_; rintro _ w1 ⟨rfl, hb1⟩)
        | (go_at_call 13; refine (unhide HCH _ hb1).mono ?_; rintro _ w2 ⟨rfl, HS2⟩; replace HS2 := hide HS2))
      go_roundw
      case rel => exact ⟨i + 1, by go_num, by omega, HS2⟩
      case measure => simp [intOf]; omega
    · have i1 : ¬ (i : Int) < (n : Int) := by omega
      have HCH : Hid (∀ w1, Below wr.heap.size wr w1 → ∀ ax nx cx, Calls Tryz.prog 29 #[.slice aV n cV, .slice ax nx cx] w1 fun e w2 => e = .returned (.tuple #[]) ∧ Ky (fun q => base ≤ q) w w2) := fun w1 hb ax nx cx => by
        have ho := own_later (unhide HS).own hb
        refine (spoiltR ho (by omega) ax nx cx).mono ?_
        rintro e w2 ⟨rfl, hg⟩
        exact ⟨rfl, ((unhide HS).ky.trans (Ky.of_below hb)).trans (Ky.of_grown hg fun q hq => (World.ownsRow.lt ho q hq).1)⟩
      clear HS
      go_wp2_with (first
        | (go_at_call 14; refine (unhide K10 _).mono ?_; rintro _ w1 ⟨rfl, hb1⟩)
        | (go_at_call 29; refine (unhide HCH _ (below_alloc hb1 _) _ _ _).mono ?_; rintro _ w2 ⟨rfl, HF⟩; replace HF := hide HF))
      go_end0
      exact ⟨rfl, unhide HF⟩
end Go.Proofs.YtbdkpkpncmagoaaGreat
set_option linter.unusedSimpArgs false
set_option linter.unusedVariables false
set_option maxRecDepth 100000
namespace Go.Proofs.YtbdkpkpncmagoaaGreat
open Go.RowKit Go.Sort

/-- A view: what is said of the blocks from lo to hi. -/
structure Vw where
  lo : Nat
  hi : Nat
  P : World → Prop
  keep : ∀ w w', (∀ q, lo ≤ q → q < hi → w'.heap[q]? = w.heap[q]?) → P w → P w'
theorem cell_same {w w' : World} {q j : Nat} {x : Value} (h : w'.heap[q]? = w.heap[q]?) (hx : w.cell? ⟨q, j, none⟩ = some x) : w'.cell? ⟨q, j, none⟩ = some x := by
  rw [← hx]; unfold World.cell?; rw [h]
/-- A list lies in the blocks from lo to hi. -/
def In (lo hi : Nat) (a : Option Addr) : Prop := ∀ ad, a = some ad → lo ≤ ad.block ∧ ad.block < hi
theorem LisAt.same {w w' : World} {lo hi : Nat} {a : Option Addr} {cs : List Value} (hin : In lo hi a) (hk : ∀ q, lo ≤ q → q < hi → w'.heap[q]? = w.heap[q]?) (h : LisAt w a cs) : LisAt w' a cs := by
  rcases h with h | ⟨b, off, e, h⟩
  · exact .inl h
  · have hb := hin _ e
    exact .inr ⟨b, off, e, fun i x hx => cell_same (hk b hb.1 hb.2) (h i x hx)⟩
theorem RowAt.same {w w' : World} {lo hi : Nat} {a : Option Addr} {xs : List Val} (hin : In lo hi a) (hk : ∀ q, lo ≤ q → q < hi → w'.heap[q]? = w.heap[q]?) (h : RowAt w a xs) : RowAt w' a xs := by
  rcases h with h | ⟨b, off, e, h⟩
  · exact .inl h
  · have hb := hin _ e
    exact .inr ⟨b, off, e, fun i x hx => by
      obtain ⟨h0, h1, h2⟩ := h i x hx
      exact ⟨cell_same (hk b hb.1 hb.2) h0, cell_same (hk b hb.1 hb.2) h1, cell_same (hk b hb.1 hb.2) h2⟩⟩
/-- A column and its lists. -/
def Vw.vec (lo hi : Nat) (X : Vc) (p : Sl) : Vw := ⟨lo, hi, fun w => VecAt w X p ∧ In lo hi p.a1 ∧ In lo hi p.a2 ∧ In lo hi p.a3, fun w w' hk ⟨h, i1, i2, i3⟩ => ⟨⟨h.1.same i1 hk, h.2.1.same i2 hk, h.2.2.same i3 hk⟩, i1, i2, i3⟩⟩
/-- A column's box. -/
def Vw.box (b : Nat) (X : Vc) (p : Sl) : Vw := ⟨b, b + 1, fun w => CS b X p w, fun w w' hk ⟨h0, h1, h2, h3⟩ => by
  have hb := hk b (Nat.le_refl _) (by omega)
  exact ⟨cell_same hb h0, cell_same hb h1, cell_same hb h2, cell_same hb h3⟩⟩
def Vw.row (lo hi : Nat) (a : Option Addr) (xs : List Val) : Vw := ⟨lo, hi, fun w => RowAt w a xs ∧ In lo hi a, fun w w' hk ⟨h, i⟩ => ⟨h.same i hk, i⟩⟩
def Vw.lis (lo hi : Nat) (a : Option Addr) (cs : List Value) : Vw := ⟨lo, hi, fun w => LisAt w a cs ∧ In lo hi a, fun w w' hk ⟨h, i⟩ => ⟨h.same i hk, i⟩⟩
/-- A list of one's own that is to be spoilt. -/
def Vw.own (lo hi t sz : Nat) (S : Value) (n : Nat) (xs : List Value) : Vw := ⟨lo, hi, fun w => w.ownsRow lo t sz S n xs ∧ ∀ g, S.ownBlock = some g → lo ≤ g ∧ g < hi, fun w w' hk ⟨h, i⟩ => ⟨own_keep h fun g hg => hk g (i g hg).1 (i g hg).2, i⟩⟩
def Vw.own3 (lo hi : Nat) (X : Vc) (p : Sl) : Vw := ⟨lo, hi, fun w => Own3 w lo X p ∧ ∀ q, slB X p q → lo ≤ q ∧ q < hi, fun w w' hk ⟨h, i⟩ => ⟨⟨own_keep h.1 fun g hg => hk g (i g (.inl hg)).1 (i g (.inl hg)).2, own_keep h.2.1 fun g hg => hk g (i g (.inr (.inl hg))).1 (i g (.inr (.inl hg))).2, own_keep h.2.2 fun g hg => hk g (i g (.inr (.inr hg))).1 (i g (.inr (.inr hg))).2⟩, i⟩⟩

/-- The law's state: all views hold. -/
def StM (w0 w : World) (VB : List Vw) : Prop := Below w0.heap.size w0 w ∧ ∀ v ∈ VB, v.hi ≤ w.heap.size ∧ v.P w
variable {w0 w w' : World} {VB : List Vw}
theorem StM.below (h : StM w0 w VB) (hb : Below w.heap.size w w') : StM w0 w' VB :=
  ⟨below_step h.1 hb, fun v hv => ⟨Nat.le_trans (h.2 v hv).1 hb.size, v.keep w w' (fun q _ hq => hb.block q (Nat.lt_of_lt_of_le hq (h.2 v hv).1)) (h.2 v hv).2⟩⟩
theorem StM.ky {F : Nat → Prop} (h : StM w0 w VB) (hK : Ky F w w') (h0 : ∀ q, F q → w0.heap.size ≤ q) (hF : ∀ v ∈ VB, ∀ q, v.lo ≤ q → q < v.hi → ¬ F q) : StM w0 w' VB :=
  ⟨h.1.trans (hK.below h0 h.1.size), fun v hv => ⟨Nat.le_trans (h.2 v hv).1 hK.size, v.keep w w' (fun q hl hq => hK.block q (Nat.lt_of_lt_of_le hq (h.2 v hv).1) (hF v hv q hl hq)) (h.2 v hv).2⟩⟩
theorem StM.add (h : StM w0 w VB) {v : Vw} (hv : v.hi ≤ w.heap.size ∧ v.P w) : StM w0 w (v :: VB) := ⟨h.1, fun u hu => by
  rcases List.mem_cons.1 hu with rfl | hu
  · exact hv
  · exact h.2 u hu⟩
theorem StM.drop {v : Vw} (h : StM w0 w (v :: VB)) : StM w0 w VB := ⟨h.1, fun u hu => h.2 u (List.mem_cons_of_mem _ hu)⟩
theorem StM.head {v : Vw} (h : StM w0 w (v :: VB)) : v.P w := (h.2 v List.mem_cons_self).2
theorem StM.get (h : StM w0 w VB) (i : Nat) {v : Vw} (hv : VB[i]? = some v) : v.P w := (h.2 v (List.mem_of_getElem? hv)).2
theorem StM.sub {VB' : List Vw} (h : StM w0 w VB) (hs : ∀ v ∈ VB', v ∈ VB) : StM w0 w VB' := ⟨h.1, fun v hv => h.2 v (hs v hv)⟩
/-- What is made is a view of its own. -/
theorem own3_vec {W : World} {X : Vc} {p : Sl} (h : VecAt w X p) (ho : Own3 w W.heap.size X p) : (Vw.vec W.heap.size w.heap.size X p).P w ∧ (Vw.own3 W.heap.size w.heap.size X p).P w := by
  have key : ∀ {t n : Nat} {a : Option Addr} {m c : Nat} {xs : List Value}, w.ownsRow W.heap.size t 1 (.slice a m c) n xs → In W.heap.size w.heap.size a := fun {t n a m c xs} ho ad e => by
    have := World.ownsRow.lt ho ad.block (by rw [e]; rfl)
    exact this
  refine ⟨⟨h, key ho.1, key ho.2.1, key ho.2.2⟩, ho, fun q hq => ?_⟩
  rcases hq with hq | hq | hq
  · exact World.ownsRow.lt ho.1 q hq
  · exact World.ownsRow.lt ho.2.1 q hq
  · exact World.ownsRow.lt ho.2.2 q hq
theorem own_view {W : World} {t sz n : Nat} {S : Value} {xs : List Value} (ho : w.ownsRow W.heap.size t sz S n xs) : (Vw.own W.heap.size w.heap.size t sz S n xs).P w := ⟨ho, fun g hg => World.ownsRow.lt ho g hg⟩
end Go.Proofs.YtbdkpkpncmagoaaGreat
set_option linter.unusedSimpArgs false
set_option linter.unusedVariables false
set_option maxRecDepth 100000
namespace Go.Proofs.YtbdkpkpncmagoaaGreat
open Go.RowKit Go.Sort

theorem own_nil {w : World} {base t sz n m c : Nat} {xs : List Value} {a : Option Addr} (h : w.ownsRow base t sz (.slice a m c) n xs) : a = none → c = 0 := fun e => by
  subst e
  rcases h.2 with ⟨h, _⟩ | ⟨g, cap, cur, h, _⟩
  · injection h
  · cases h
theorem Own3.nil {w : World} {base : Nat} {X : Vc} {p : Sl} (h : Own3 w base X p) : (p.a1 = none → p.c1 = 0) ∧ (p.a2 = none → p.c2 = 0) ∧ (p.a3 = none → p.c3 = 0) := ⟨own_nil h.1, own_nil h.2.1, own_nil h.2.2⟩
theorem own_lis {w : World} {base t n m c : Nat} {a : Option Addr} {xs : List Value} (h : w.ownsRow base t 1 (.slice a m c) n xs) : LisAt w a xs := by
  rcases h.2 with ⟨e, h0⟩ | ⟨g, cap, cur, e, _⟩
  · exact .inl (List.eq_nil_of_length_eq_zero (by simp [h.1, h0]))
  · injection e with e1 e2 e3
    subst e1 e2 e3
    refine .inr ⟨g, 0, rfl, fun i x hx => ?_⟩
    have hi : i < m * 1 := by have := (List.getElem?_eq_some_iff.1 hx).1; rw [h.1] at this; exact this
    rw [Nat.zero_add, World.ownsRow.cellAt h i hi, hx]
theorem Own3.at {w : World} {base : Nat} {X : Vc} {p : Sl} (h : Own3 w base X p) : VecAt w X p := ⟨own_lis h.1, own_lis h.2.1, own_lis h.2.2⟩
/-- A column's box that may be stored into. -/
def Vw.bx (b : Nat) (X : Vc) (p : Sl) : Vw := ⟨b, b + 1, fun w => w.rowIs b 49 4 (box4 (.int .i64 X.k) (.slice p.a1 X.nl.length p.c1) (.slice p.a2 X.ns.length p.c2) (.slice p.a3 X.ss.length p.c3)), fun w w' hk h => h.of_block (hk b (Nat.le_refl _) (by omega))⟩
/-- The law's state: views that lie apart, the newest first. -/
structure StO (w0 w : World) (VB : List Vw) : Prop where
  bel : Below w0.heap.size w0 w
  all : ∀ v ∈ VB, w0.heap.size ≤ v.lo ∧ v.hi ≤ w.heap.size ∧ v.P w
  apart : VB.Pairwise (fun v u => u.hi ≤ v.lo)
section
variable {w0 w w' : World} {VB : List Vw}
theorem StO.nil (w : World) : StO w w [] := ⟨Below.refl _ _, fun v hv => absurd hv List.not_mem_nil, List.Pairwise.nil⟩
theorem StO.below (h : StO w0 w VB) (hb : Below w.heap.size w w') : StO w0 w' VB :=
  ⟨below_step h.bel hb, fun v hv => ⟨(h.all v hv).1, Nat.le_trans (h.all v hv).2.1 hb.size, v.keep w w' (fun q _ hq => hb.block q (Nat.lt_of_lt_of_le hq (h.all v hv).2.1)) (h.all v hv).2.2⟩, h.apart⟩
theorem StO.make (h : StO w0 w VB) (hb : Below w.heap.size w w') (v : Vw) (hlo : v.lo = w.heap.size) (hhi : v.hi ≤ w'.heap.size) (hP : v.P w') : StO w0 w' (v :: VB) := by
  have h1 := h.below hb
  refine ⟨h1.bel, fun u hu => ?_, List.pairwise_cons.2 ⟨fun u hu => by rw [hlo]; exact (h.all u hu).2.1, h.apart⟩⟩
  rcases List.mem_cons.1 hu with rfl | hu
  · exact ⟨by rw [hlo]; exact h.bel.size, hhi, hP⟩
  · exact h1.all u hu
theorem StO.drew (h : StO w0 w VB) : StO w0 w.drew VB := ⟨h.bel.drew, fun v hv => ⟨(h.all v hv).1, (h.all v hv).2.1, v.keep w w.drew (fun q _ _ => rfl) (h.all v hv).2.2⟩, h.apart⟩
theorem StO.get (h : StO w0 w VB) (i : Nat) {v : Vw} (hv : VB[i]? = some v) : v.P w := (h.all v (List.mem_of_getElem? hv)).2.2
theorem StO.low (h : StO w0 w VB) (i : Nat) {v : Vw} (hv : VB[i]? = some v) : w0.heap.size ≤ v.lo := (h.all v (List.mem_of_getElem? hv)).1
theorem StO.high (h : StO w0 w VB) (i : Nat) {v : Vw} (hv : VB[i]? = some v) : v.hi ≤ w.heap.size := (h.all v (List.mem_of_getElem? hv)).2.1
theorem StO.del (h : StO w0 w VB) (i : Nat) : StO w0 w (VB.eraseIdx i) := ⟨h.bel, fun v hv => h.all v (List.mem_of_mem_eraseIdx hv), h.apart.sublist (List.eraseIdx_sublist VB i)⟩
theorem pair_erase {R : Vw → Vw → Prop} : ∀ (l : List Vw) (i : Nat) (v : Vw), l.Pairwise R → l[i]? = some v → ∀ u ∈ l.eraseIdx i, R u v ∨ R v u
  | [], i, v, _, hv, u, hu => by cases hu
  | a :: l, 0, v, hp, hv, u, hu => by
    simp only [List.getElem?_cons_zero, Option.some.injEq] at hv
    subst hv
    exact .inr ((List.pairwise_cons.1 hp).1 u hu)
  | a :: l, i + 1, v, hp, hv, u, hu => by
    simp only [List.getElem?_cons_succ] at hv
    rcases List.mem_cons.1 hu with rfl | hu
    · exact .inl ((List.pairwise_cons.1 hp).1 v (List.mem_of_getElem? hv))
    · exact pair_erase l i v (List.pairwise_cons.1 hp).2 hv u hu
/-- One thing is spoilt: the others are as they were. -/
theorem StO.spoil {F : Nat → Prop} (h : StO w0 w VB) (i : Nat) {v : Vw} (hv : VB[i]? = some v) (hK : Ky F w w') (hF : ∀ q, q < w.heap.size → F q → v.lo ≤ q ∧ q < v.hi) : StO w0 w' (VB.eraseIdx i) := by
  have hlo := h.low i hv
  have hap := pair_erase VB i v h.apart hv
  have hd := h.del i
  refine ⟨h.bel.trans ((hK.less (G := fun q => v.lo ≤ q ∧ q < v.hi) hF).below (fun k hk => Nat.le_trans hlo hk.1) h.bel.size), fun u hu => ?_, hd.apart⟩
  obtain ⟨h1, h2, h3⟩ := hd.all u hu
  refine ⟨h1, Nat.le_trans h2 hK.size, u.keep w w' (fun q hl hq => hK.block q (by omega) fun hf => ?_) h3⟩
  have := hF q (by omega) hf
  rcases hap u hu with hh | hh
  · omega
  · omega
theorem StO.bx4 {b i : Nat} {X : Vc} {p : Sl} (h : StO w0 w VB) (hv : VB[i]? = some (Vw.bx b X p)) : CS b X p w := by
  have := box_facts (h.get i hv)
  exact ⟨this.1, this.2.1, this.2.2.1, this.2.2.2.1⟩
end
theorem bx_view {w W : World} {X : Vc} {p : Sl} (hW : w.alloc (.cells #[.int .i64 X.k, .slice p.a1 X.nl.length p.c1, .slice p.a2 X.ns.length p.c2, .slice p.a3 X.ss.length p.c3] 49) = W) : Below w.heap.size w W ∧ (Vw.bx w.heap.size X p).hi ≤ W.heap.size ∧ (Vw.bx w.heap.size X p).P W := by
  have h := box4_alloc w (.int .i64 X.k) (.slice p.a1 X.nl.length p.c1) (.slice p.a2 X.ns.length p.c2) (.slice p.a3 X.ss.length p.c3)
  rw [hW] at h
  refine ⟨by rw [← hW]; exact below_alloc (Below.refl _ _) _, ?_, h⟩
  rw [← hW]
  show w.heap.size + 1 ≤ (w.heap.push _).size
  rw [Array.size_push]
  omega
/-- A column that is made, and its box. -/
theorem StO.vecbox {w0 w w1 W : World} {VB : List Vw} {X : Vc} {p : Sl} (h : StO w0 w VB) (hb : Below w.heap.size w w1) (hv : VecAt w1 X p) (ho : Own3 w1 w.heap.size X p) (hW : w1.alloc (.cells #[.int .i64 X.k, .slice p.a1 X.nl.length p.c1, .slice p.a2 X.ns.length p.c2, .slice p.a3 X.ss.length p.c3] 49) = W) : StO w0 W (Vw.bx w1.heap.size X p :: Vw.vec w.heap.size w1.heap.size X p :: VB) := by
  obtain ⟨b1, b2, b3⟩ := bx_view hW
  exact (h.make hb _ rfl (Nat.le_refl _) (own3_vec hv ho).1).make b1 _ rfl b2 b3
theorem StO.ownbox {w0 w w1 W : World} {VB : List Vw} {X : Vc} {p : Sl} (h : StO w0 w VB) (hb : Below w.heap.size w w1) (hv : VecAt w1 X p) (ho : Own3 w1 w.heap.size X p) (hW : w1.alloc (.cells #[.int .i64 X.k, .slice p.a1 X.nl.length p.c1, .slice p.a2 X.ns.length p.c2, .slice p.a3 X.ss.length p.c3] 49) = W) : StO w0 W (Vw.bx w1.heap.size X p :: Vw.own3 w.heap.size w1.heap.size X p :: VB) := by
  obtain ⟨b1, b2, b3⟩ := bx_view hW
  exact (h.make hb _ rfl (Nat.le_refl _) (own3_vec hv ho).2).make b1 _ rfl b2 b3
/-- A column is spoilt. -/
theorem StO.spoil3 {w0 w w' : World} {VB : List Vw} {X : Vc} {p : Sl} {lo hi : Nat} (h : StO w0 w VB) (i : Nat) (hv : VB[i]? = some (Vw.own3 lo hi X p)) (hK : Ky (slB X p) w w') : StO w0 w' (VB.eraseIdx i) :=
  h.spoil i hv hK fun q _ hq => (h.get i hv).2 q hq
theorem StO.spoil1 {w0 w w' : World} {VB : List Vw} {lo hi t sz n : Nat} {S : Value} {xs : List Value} (h : StO w0 w VB) (i : Nat) (hv : VB[i]? = some (Vw.own lo hi t sz S n xs)) (hK : w.grownBy w' S.ownBlock) : StO w0 w' (VB.eraseIdx i) :=
  h.spoil (F := fun q => S.ownBlock = some q) i hv (Ky.of_grown hK fun g hg => hg) fun q _ hq => (h.get i hv).2 q hq
/-- A box is stored into. -/
theorem box4_set {w : World} {g : Nat} {a b c d a' b' c' d' : Value} (h : w.rowIs g 49 4 (box4 a b c d)) : ((((w.setCell ⟨g, 0, none⟩ a').setCell ⟨g, 1, none⟩ b').setCell ⟨g, 2, none⟩ c').setCell ⟨g, 3, none⟩ d').rowIs g 49 4 (box4 a' b' c' d') := by
  have h4 := (((h.set 0 a').set 1 b').set 2 c').set 3 d'
  obtain ⟨cs, h1, h2, h3⟩ := h4
  refine ⟨cs, h1, h2, fun i hi => (h3 i hi).trans ?_⟩
  rcases i with _ | _ | _ | _ | i
  · rfl
  · rfl
  · rfl
  · rfl
  · omega
theorem ky_set4 (w : World) (b : Nat) (v0 v1 v2 v3 : Value) : Ky (fun q => q = b) w ((((w.setCell ⟨b, 0, none⟩ v0).setCell ⟨b, 1, none⟩ v1).setCell ⟨b, 2, none⟩ v2).setCell ⟨b, 3, none⟩ v3) := by
  refine ⟨rfl, rfl, rfl, ?_, fun q hq hn => ?_⟩
  · simp [World.setCell]
  · have e : ∀ (W : World) (j : Nat) (v : Value), (W.setCell ⟨b, j, none⟩ v).heap[q]? = W.heap[q]? := fun W j v => Go.Deep.blk_setCell_other W ⟨b, j, none⟩ v q hn
    rw [e, e, e, e]
theorem StO.put {w0 w : World} {VB : List Vw} {b : Nat} {X Y : Vc} {p q : Sl} (h : StO w0 w (Vw.bx b X p :: VB)) : StO w0 ((((w.setCell ⟨b, 0, none⟩ (.int .i64 Y.k)).setCell ⟨b, 1, none⟩ (.slice q.a1 Y.nl.length q.c1)).setCell ⟨b, 2, none⟩ (.slice q.a2 Y.ns.length q.c2)).setCell ⟨b, 3, none⟩ (.slice q.a3 Y.ss.length q.c3)) (Vw.bx b Y q :: VB) := by
  have hk := ky_set4 w b (.int .i64 Y.k) (.slice q.a1 Y.nl.length q.c1) (.slice q.a2 Y.ns.length q.c2) (.slice q.a3 Y.ss.length q.c3)
  have h1 := h.spoil 0 (v := Vw.bx b X p) rfl hk fun r _ hr => by subst hr; exact ⟨Nat.le_refl _, Nat.lt_succ_self _⟩
  have h2 := h.all _ List.mem_cons_self
  refine ⟨h1.bel, fun u hu => ?_, List.pairwise_cons.2 ⟨(List.pairwise_cons.1 h.apart).1, (List.pairwise_cons.1 h.apart).2⟩⟩
  rcases List.mem_cons.1 hu with rfl | hu
  · exact ⟨h2.1, Nat.le_trans h2.2.1 hk.size, box4_set h2.2.2⟩
  · exact h1.all u hu
end Go.Proofs.YtbdkpkpncmagoaaGreat
set_option linter.unusedSimpArgs false
set_option linter.unusedVariables false
set_option maxRecDepth 100000
namespace Go.Proofs.YtbdkpkpncmagoaaGreat
open Go.RowKit Go.Sort

theorem own_nilR {w : World} {base t sz n m c : Nat} {xs : List Value} {a : Option Addr} (h : w.ownsRow base t sz (.slice a m c) n xs) : a = none → c = 0 := fun e => by
  subst e
  rcases h.2 with ⟨h, _⟩ | ⟨g, cap, cur, h, _⟩
  · injection h
  · cases h
/-- Rows in memory; a row that is nil has no room. -/
def RowsZ (w : World) (a : Option Addr) (rs : List (List Val)) : Prop :=
  rs = [] ∨ ∃ b off, a = some ⟨b, off, none⟩ ∧ ∀ i r, rs[i]? = some r → ∃ ra rc, w.cell? ⟨b, off + i, none⟩ = some (.slice ra r.length rc) ∧ RowAt w ra r ∧ (ra = none → rc = 0)
theorem RowsZ.at {w : World} {a : Option Addr} {rs : List (List Val)} (h : RowsZ w a rs) : RowsAt w a rs := by
  rcases h with h | ⟨b, off, ha, h⟩
  · exact .inl h
  · exact .inr ⟨b, off, ha, fun i r hr => by obtain ⟨ra, rc, h1, h2, _⟩ := h i r hr; exact ⟨ra, rc, h1, h2⟩⟩
theorem RowsZ.later {w w' : World} {a : Option Addr} {rs : List (List Val)} (h : RowsZ w a rs) (hb : Below w.heap.size w w') : RowsZ w' a rs := by
  rcases h with h | ⟨b, off, ha, h⟩
  · exact .inl h
  · exact .inr ⟨b, off, ha, fun i r hr => by obtain ⟨ra, rc, h1, h2, h3⟩ := h i r hr; exact ⟨ra, rc, cell_later hb h1, h2.later hb, h3⟩⟩
/-- Rows of one's own: their list, and each row, in a block of its own, all of F. -/
structure RwO (w : World) (F : Nat → Prop) (a : Option Addr) (c : Nat) (rs : List (List Val)) (cs : List Value) : Prop where
  own : w.ownsRow 0 34 1 (.slice a rs.length c) rs.length cs
  row : ∀ (j : Nat) (r : List Val) (u : Value), rs[j]? = some r → cs[j]? = some u → OwnV w 0 u r
  inF : ∀ (j : Nat) (u : Value) b, cs[j]? = some u → u.ownBlock = some b → F b
  ap : ∀ (j j' : Nat) (u u' : Value) b, j ≠ j' → cs[j]? = some u → cs[j']? = some u' → u.ownBlock = some b → u'.ownBlock = some b → False
  lst : ∀ g, (Value.slice a rs.length c).ownBlock = some g → F g
theorem RwO.len {w : World} {F : Nat → Prop} {a : Option Addr} {c : Nat} {rs : List (List Val)} {cs : List Value} (h : RwO w F a c rs cs) : cs.length = rs.length := by have := h.own.1; omega
theorem RwO.keep {w w' : World} {F : Nat → Prop} {a : Option Addr} {c : Nat} {rs : List (List Val)} {cs : List Value} (h : RwO w F a c rs cs) (hk : ∀ b, F b → w'.heap[b]? = w.heap[b]?) : RwO w' F a c rs cs :=
  ⟨own_keep h.own fun g hg => hk g (h.lst g hg), fun j r u hr hu => own_keep (h.row j r u hr hu) fun g hg => hk g (h.inF j u g hu hg), h.inF, h.ap, h.lst⟩
theorem RwO.rows {w : World} {F : Nat → Prop} {a : Option Addr} {c : Nat} {rs : List (List Val)} {cs : List Value} (h : RwO w F a c rs cs) : RowsZ w a rs := by
  by_cases h0 : rs = []
  · exact .inl h0
  · have hpos : 0 < rs.length := by cases rs with | nil => exact absurd rfl h0 | cons _ _ => exact Nat.zero_lt_succ _
    rcases h.own.2 with ⟨_, e⟩ | ⟨g, cap, cur, e, _⟩
    · omega
    injection e with e1 e2 e3
    subst e1
    refine .inr ⟨g, 0, rfl, fun i r hr => ?_⟩
    have hi := (List.getElem?_eq_some_iff.1 hr).1
    obtain ⟨u, hu⟩ : ∃ u, cs[i]? = some u := ⟨_, List.getElem?_eq_getElem (by rw [h.len]; exact hi)⟩
    obtain ⟨ra, rc, rfl, hra⟩ := ownV_row (h.row i r u hr hu)
    refine ⟨ra, rc, ?_, hra, own_nilR (h.row i r _ hr hu)⟩
    rw [Nat.zero_add]
    exact (World.ownsRow.cellAt h.own i (by omega)).trans hu
/-- spoiltRows, under way: the rows ahead of i are spoilt. -/
structure SrJ (w wr : World) (F : Nat → Prop) (a : Option Addr) (c : Nat) (rs : List (List Val)) (cs : List Value) (i : Nat) : Prop where
  own : wr.ownsRow 0 34 1 (.slice a rs.length c) rs.length cs
  row : ∀ (j : Nat) (r : List Val) (u : Value), i ≤ j → rs[j]? = some r → cs[j]? = some u → OwnV wr 0 u r
  ky : Ky F w wr
theorem SrJ.later {w wr w' : World} {F : Nat → Prop} {a : Option Addr} {c : Nat} {rs : List (List Val)} {cs : List Value} {i : Nat} (h : SrJ w wr F a c rs cs i) (hb : Below wr.heap.size wr w') : SrJ w w' F a c rs cs i :=
  ⟨own_later h.own hb, fun j r u hj hr hu => own_later (h.row j r u hj hr hu) hb, h.ky.trans (Ky.of_below hb)⟩
theorem SrJ.step {w w0 wr w' : World} {F : Nat → Prop} {a : Option Addr} {c : Nat} {rs : List (List Val)} {cs : List Value} {i : Nat} {r : List Val} {u : Value} (h0 : RwO w0 F a c rs cs) (h : SrJ w wr F a c rs cs i) (hr : rs[i]? = some r) (hu : cs[i]? = some u) (hg : wr.grownBy w' u.ownBlock) : SrJ w w' F a c rs cs (i + 1) := by
  refine ⟨own_keep h.own fun q hq => hg.block q (World.ownsRow.lt h.own q hq).2 fun e => ?_, fun j r' u' hj hr' hu' => own_keep (h.row j r' u' (by omega) hr' hu') fun q hq => hg.block q (World.ownsRow.lt (h.row j r' u' (by omega) hr' hu') q hq).2 fun e => ?_, h.ky.trans (Ky.of_grown hg fun q hq => h0.inF i u q hu hq)⟩
  · exact own_diff (h.row i r u (Nat.le_refl _) hr hu) h.own (by decide) q e.symm hq
  · exact h0.ap i j u u' q (by omega) hu hu' e.symm hq
set_option maxHeartbeats 4000000 in
/-- spoiltRows (9). -/
theorem spoiltrows_all {w : World} {F : Nat → Prop} {a : Option Addr} {c : Nat} {rs : List (List Val)} {cs : List Value} (h : RwO w F a c rs cs) (hl : rs.length ≤ 1048576) (hr : ∀ r ∈ rs, r.length ≤ 2097152) : Calls Tryz.prog 9 #[.slice a rs.length c] w fun e w' => e = .returned (.tuple #[]) ∧ Ky F w w' := by
  have HH := hide h
  have HS0 : Hid (SrJ w w F a c rs cs 0) := ⟨h.own, fun j r u _ hr hu => h.row j r u hr hu, Ky.of_below (Below.refl _ _)⟩
  have HL := hide hr
  have hcl := h.len
  have HCL := hide hcl
  clear h hr hcl
  have K10 := hide mark_any
  go_enter Tryz.func9, Tryz.ntmps9
  go_wp2_with fail
  go_loopw [6] (fun s6 wr => ∃ i : Nat, s6 = .int .i64 (i : Int) ∧ i ≤ rs.length ∧ Hid (SrJ w wr F a c rs cs i)) (fun s _ => rs.length - (intOf s).toNat)
  case atStart => exact ⟨0, rfl, Nat.zero_le _, HS0⟩
  case round =>
    obtain ⟨i, rfl, hin, HS⟩ := hrel
    clear HS0
    by_cases hi : i < rs.length
    · obtain ⟨r, hri⟩ : ∃ r, rs[i]? = some r := ⟨_, List.getElem?_eq_getElem hi⟩
      obtain ⟨u, hu⟩ : ∃ u, cs[i]? = some u := ⟨_, List.getElem?_eq_getElem (by rw [unhide HCL]; exact hi)⟩
      obtain ⟨ar, cr, hus⟩ := own_slice (show wr.ownsRow 0 42 3 u r.length _ from (unhide HS).row i r u (Nat.le_refl _) hri hu)
      obtain ⟨gV, hgV⟩ : ∃ gV, a = some ⟨gV, 0, none⟩ := by
        rcases (unhide HS).own.2 with ⟨_, h0⟩ | ⟨g, cap, cur, e, _⟩
        · omega
        · injection e with e _ _; exact ⟨g, e⟩
      subst hgV
      have c0 : wr.cell? ⟨gV, i, none⟩ = some (.slice ar r.length cr) := by rw [← hus]; exact (World.ownsRow.cellAt (unhide HS).own i (by omega)).trans hu
      have HCH : Hid (∀ w1, Below wr.heap.size wr w1 → Calls Tryz.prog 13 #[.slice ar r.length cr, .agg #[.int .i64 2, .int .i64 0, .string ⟨#[115, 112, 111, 105, 108, 116]⟩]] w1 fun e w2 => e = .returned (.tuple #[]) ∧ SrJ w w2 F (some ⟨gV, 0, none⟩) c rs cs (i + 1)) := fun w1 hb => by
        have ho := ((unhide HS).later hb).row i r u (Nat.le_refl _) hri hu
        rw [hus] at ho
        refine (spoiltV ho (unhide HL r (List.mem_of_getElem? hri)) markV).mono ?_
        rintro e w2 ⟨rfl, hg⟩
        exact ⟨rfl, SrJ.step (unhide HH) ((unhide HS).later hb) hri hu (by rw [hus]; exact hg)⟩
      have i1 : (i : Int) < (rs.length : Int) := by omega
      clear hri hu hus
      go_wp2_with (first
        | (go_at_call 14; refine (unhide K10 _).mono ?_; rintro _ w1 ⟨rfl, hb1⟩)
        | (go_at_call 13; refine (unhide HCH _ hb1).mono ?_; rintro _ w2 ⟨rfl, HS2⟩; replace HS2 := hide HS2))
      go_roundw
      case rel => exact ⟨i + 1, by go_num, by omega, HS2⟩
      case measure => simp [intOf]; omega
    · have i1 : ¬ (i : Int) < (rs.length : Int) := by omega
      have HCH : Hid (∀ w1, Below wr.heap.size wr w1 → ∀ ax nx cx, Calls Tryz.prog 29 #[.slice a rs.length c, .slice ax nx cx] w1 fun e w2 => e = .returned (.tuple #[]) ∧ Ky F w w2) := fun w1 hb ax nx cx => by
        have ho := own_later (unhide HS).own hb
        refine (spoiltR ho (by omega) ax nx cx).mono ?_
        rintro e w2 ⟨rfl, hg⟩
        exact ⟨rfl, ((unhide HS).ky.trans (Ky.of_below hb)).trans (Ky.of_grown hg fun q hq => (unhide HH).lst q hq)⟩
      clear HS
      go_wp2_with (first
        | (go_at_call 14; refine (unhide K10 _).mono ?_; rintro _ w1 ⟨rfl, hb1⟩)
        | (go_at_call 29; refine (unhide HCH _ (below_alloc hb1 _) _ _ _).mono ?_; rintro _ w2 ⟨rfl, HF⟩; replace HF := hide HF))
      go_end0
      exact ⟨rfl, unhide HF⟩
/-- copiedRows, under way: k rows are copied. -/
def CrI (w : World) (rs : List (List Val)) (k : Nat) (v : Value) (wr : World) : Prop := ∃ cs : List Value, wr.ownsRow w.heap.size 34 1 v k cs ∧ (∀ (j : Nat) (r : List Val) (u : Value), rs[j]? = some r → cs[j]? = some u → OwnV wr w.heap.size u r) ∧ (∀ (j j' : Nat) (u u' : Value) b, j ≠ j' → cs[j]? = some u → cs[j']? = some u' → u.ownBlock = some b → u'.ownBlock = some b → False) ∧ Below w.heap.size w wr
theorem CrI.slice {w wr : World} {rs : List (List Val)} {k : Nat} {v : Value} (h : CrI w rs k v wr) : ∃ a c, v = .slice a k c := by obtain ⟨cs, h1, _⟩ := h; exact own_slice h1
theorem CrI.nil (w : World) (rs : List (List Val)) : CrI w rs 0 (.slice none 0 0) w := ⟨[], World.ownsRow_nil _ _ _ _, fun j r u _ h => by simp at h, fun j j' u u' b _ h => by simp at h, Below.refl _ _⟩
theorem CrI.app {w wr w2 : World} {rs : List (List Val)} {k : Nat} {v u : Value} {r : List Val} (h : CrI w rs k v wr) (hr : rs[k]? = some r) (hb : Below wr.heap.size wr w2) (hx : OwnV w2 wr.heap.size u r) (hk : k ≤ 2097152) :
    ∃ v' w4, (Builtin.append_ #[23, 23] 23 #[v, .slice (some ⟨w2.heap.size, 0, none⟩) 1 1]).run Tryz.prog (w2.alloc (.cells #[u] 34)) = .ok v' w4 ∧ CrI w rs (k + 1) v' w4 := by
  obtain ⟨cs, h1, h2, h3, h6⟩ := h
  have hcl : cs.length = k := by have := h1.1; omega
  obtain ⟨w3, hw3⟩ : ∃ w3, w2.alloc (.cells #[u] 34) = w3 := ⟨_, rfl⟩
  have hb3 : Below w2.heap.size w2 w3 := by rw [← hw3]; exact below_alloc (Below.refl _ _) _
  have hs2 := hb.size
  have hs3 := hb3.size
  have hsw := h6.size
  have hu1 : u.oneCell' = true := by obtain ⟨ua, uc, rfl⟩ := own_slice hx; rfl
  have hcell : ∀ j x, [u][j]? = some x → w3.cell? ((⟨w2.heap.size, 0, none⟩ : Addr).add j) = some x := fun j x hx => by
    rw [Addr.add_lit, ← hw3]
    match j, hx with
    | 0, hx => simp at hx; subst hx; simp [go_sem]
    | j + 1, hx => simp at hx
  have hown3 : w3.ownsRow w.heap.size 34 1 v k cs := own_later (own_later h1 hb) hb3
  obtain ⟨v', w4, hrun, hv', hway⟩ := app_okR w3 w.heap.size k 1 1 v cs [u] 23 ⟨w2.heap.size, 0, none⟩ hown3 rfl hcell (fun x hx => by rw [List.mem_singleton.1 hx]; exact hu1) (by omega) (by omega) (by omega)
  rw [hw3]
  have hw3b : Below w.heap.size w w3 := below_step (below_step h6 hb) hb3
  have hkeep : (∀ b, b < w3.heap.size → v.ownBlock ≠ some b → w4.heap[b]? = w3.heap[b]?) ∧ Below w.heap.size w w4 := by
    rcases hway with ⟨g, cap, e1, e2, hg⟩ | ⟨hnew, hbl⟩
    · subst e1 e2
      exact ⟨fun b h1 h2 => hg.block b h1 fun e => h2 e.symm, hw3b.trans (grown_below hg hw3b.size fun q hq => (World.ownsRow.lt hown3 q hq).1)⟩
    · exact ⟨fun b h1 _ => hbl.block b h1, below_step hw3b hbl⟩
  obtain ⟨k1, k4⟩ := hkeep
  refine ⟨v', w4, hrun, cs ++ [u], hv', fun j r' u' hr' hu' => ?_, fun j j' x x' b hjj hx1 hx2 hb1 hb2 => ?_, k4⟩
  · by_cases hj : j < k
    · rw [List.getElem?_append_left (by omega)] at hu'
      have ho := h2 j r' u' hr' hu'
      have ho3 := own_later (own_later ho hb) hb3
      exact own_keep ho3 fun g hg => k1 g (World.ownsRow.lt ho3 g hg).2 fun e => own_diff ho h1 (by decide) g hg e
    · rw [List.getElem?_append_right (by omega)] at hu'
      have hjk : j = k := by
        by_cases h : j = k
        · exact h
        · rw [List.getElem?_eq_none (by simp; omega)] at hu'; cases hu'
      subst hjk
      rw [hcl, Nat.sub_self, List.getElem?_cons_zero] at hu'
      injection hu' with hu'
      subst hu'
      rw [hr] at hr'
      injection hr' with hr'
      subst hr'
      have ho3 := own_later (own_lessB hx hsw) hb3
      exact own_keep ho3 fun g hg => k1 g (World.ownsRow.lt ho3 g hg).2 fun e => by
        have g1 := (World.ownsRow.lt hx g hg).1
        have g2 := (World.ownsRow.lt h1 g e).2
        omega
  · have key : ∀ (i : Nat) (y : Value), (cs ++ [u])[i]? = some y → (i < k ∧ cs[i]? = some y) ∨ (i = k ∧ y = u) := fun i y hy => by
      by_cases hi : i < k
      · rw [List.getElem?_append_left (by omega)] at hy; exact .inl ⟨hi, hy⟩
      · rw [List.getElem?_append_right (by omega)] at hy
        by_cases h : i = k
        · subst h
          rw [hcl, Nat.sub_self, List.getElem?_cons_zero] at hy
          injection hy with hy
          exact .inr ⟨rfl, hy.symm⟩
        · rw [List.getElem?_eq_none (by simp; omega)] at hy; cases hy
    have lowb : ∀ (i : Nat) (y : Value), i < k → cs[i]? = some y → y.ownBlock = some b → b < wr.heap.size := fun i y hi hy hyb => by
      have hil : i < rs.length := by have := (List.getElem?_eq_some_iff.1 hr).1; omega
      exact (World.ownsRow.lt (h2 i _ y (List.getElem?_eq_getElem hil) hy) b hyb).2
    rcases key j x hx1 with ⟨i1, e1⟩ | ⟨i1, e1⟩ <;> rcases key j' x' hx2 with ⟨i2, e2⟩ | ⟨i2, e2⟩
    · exact h3 j j' x x' b hjj e1 e2 hb1 hb2
    · subst e2
      have := lowb j x i1 e1 hb1
      have := (World.ownsRow.lt hx b hb2).1
      omega
    · subst e1
      have := lowb j' x' i2 e2 hb2
      have := (World.ownsRow.lt hx b hb1).1
      omega
    · omega
theorem CrI.done {w wr : World} {rs : List (List Val)} {v : Value} (h : CrI w rs rs.length v wr) : ∃ a c cs, v = .slice a rs.length c ∧ RwO wr (fun b => w.heap.size ≤ b ∧ b < wr.heap.size) a c rs cs ∧ Below w.heap.size w wr := by
  obtain ⟨cs, h1, h2, h3, h6⟩ := h
  obtain ⟨a, c, rfl⟩ := own_slice h1
  have hcl : cs.length = rs.length := by have := h1.1; omega
  refine ⟨a, c, cs, rfl, ⟨own_lessB h1 (Nat.zero_le _), fun j r u hr hu => own_lessB (h2 j r u hr hu) (Nat.zero_le _), fun j u b hu hb => ?_, h3, fun g hg => World.ownsRow.lt h1 g hg⟩, h6⟩
  have hj : j < rs.length := by rw [← hcl]; exact (List.getElem?_eq_some_iff.1 hu).1
  exact World.ownsRow.lt (h2 j _ u (List.getElem?_eq_getElem hj) hu) b hb
/-- What copiedRows answers. -/
def CpRows (rs : List (List Val)) (w : World) (e : Ending) (w' : World) : Prop := ∃ a2 c2 cs, e = .returned (.slice a2 rs.length c2) ∧ RwO w' (fun b => w.heap.size ≤ b ∧ b < w'.heap.size) a2 c2 rs cs ∧ Below w.heap.size w w'
set_option maxHeartbeats 4000000 in
/-- copiedRows (4). -/
theorem copiedrows_any (rs : List (List Val)) (a : Option Addr) (c : Nat) (w : World) (hl : rs.length ≤ 1048576) (hr : ∀ r ∈ rs, r.length ≤ 1048576) (ha : RowsZ w a rs) :
    Calls Tryz.prog 4 #[.slice a rs.length c] w (CpRows rs w) := by
  have HA := hide ha
  have HL := hide hr
  have HI0 := hide (CrI.nil w rs)
  clear ha hr
  go_enter Tryz.func4, Tryz.ntmps4
  go_wp2_with fail
  go_loopw [3, 8] (fun s3 s8 wr => ∃ (k : Nat) (v : Value), s3 = v ∧ s8 = .int .i64 (k : Int) ∧ k ≤ rs.length ∧ Hid (CrI w rs k v wr)) (fun _ s _ => rs.length - (intOf s).toNat)
  case atStart => exact ⟨0, _, rfl, rfl, Nat.zero_le _, HI0⟩
  case round =>
    obtain ⟨k, v, rfl, rfl, hk, HI⟩ := hrel
    clear HI0
    obtain ⟨av, cv, hv⟩ := (unhide HI).slice
    subst hv
    by_cases hi : k < rs.length
    · obtain ⟨r, hri⟩ : ∃ r, rs[k]? = some r := ⟨_, List.getElem?_eq_getElem hi⟩
      have hbw : Below w.heap.size w wr := by obtain ⟨cs, _, _, _, h⟩ := unhide HI; exact h
      have hz := (unhide HA).later hbw
      rcases hz with h0 | ⟨b, off, rfl, hz⟩
      · subst h0; simp at hri
      obtain ⟨ra, rc, d0, hra, hnr⟩ := hz k r hri
      have i1 : (k : Int) < (rs.length : Int) := by omega
      have HC := hide (copied_any hra hnr (by have := unhide HL r (List.mem_of_getElem? hri); omega))
      have HX := hide hri
      clear hbw hz hra hnr hri
      go_wp2_with (first
        | (go_at_call 12; refine (unhide HC).mono ?_; rintro _ w2 ⟨u, rfl, ho2, hb2⟩; obtain ⟨v', w4, hrun, hI4⟩ := (unhide HI).app (unhide HX) hb2 ho2 (by omega); have HI4 := hide hI4; replace hrun := hide hrun; obtain ⟨ua, uc, hus⟩ := own_slice ho2; subst hus; clear hI4 ho2 hb2)
        | (at_builtin; refine wpList_app_run rfl (.tmp 12) (.tmp 15) 23 rfl _ _ rfl rfl (unhide hrun) ?_))
      go_roundw
      case rel => exact ⟨k + 1, v', rfl, by go_num, by omega, HI4⟩
      case measure => simp [intOf]; omega
    · have i1 : ¬ (k : Int) < (rs.length : Int) := by omega
      obtain rfl : k = rs.length := by omega
      obtain ⟨a3, c3, cs, e3, hK, hb⟩ := (unhide HI).done
      injection e3 with e1 _ e2
      subst e1 e2
      have HK := hide hK
      have HB := hide hb
      clear hK hb
      go_wp2
      go_ret
      exact ⟨av, cv, cs, rfl, unhide HK, unhide HB⟩
end Go.Proofs.YtbdkpkpncmagoaaGreat

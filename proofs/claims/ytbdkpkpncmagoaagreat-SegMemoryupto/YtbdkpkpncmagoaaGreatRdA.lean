import Derived.Test.YtbdkpkpncmagoaaGreatVecP
import Derived.Test.YtbdkpkpncmagoaaGreatVecH
set_option linter.unusedSimpArgs false
set_option linter.unusedVariables false
namespace Go.Proofs.YtbdkpkpncmagoaaGreat
open Go.RowKit Go.Sort

def outB (n : Nat) (pl : Int) : Bool := !(decide (0 ≤ pl) && decide (pl < (n : Int)))
def pickL (X : Vc) (places : List Int) : List Val := places.map (fun pl => atV X pl.toNat)
def pickV (X : Vc) (places : List Int) : Vc × Int :=
  if goodB X = false then (.zero, 1) else if places.any (outB X.nl.length) then (.zero, 1) else (laidV X.k (pickL X places), 0)

/-- A column's box, a result's box, and a row of values that is being laid. -/
def QInv (w0 w : World) (g n k : Nat) (X : Vc) (p : Sl) (ys : List Val) : Prop :=
  PInv w0 w w0.heap.size g n k (.int .i64 X.k) (.slice p.a1 X.nl.length p.c1) (.slice p.a2 X.ns.length p.c2) (.slice p.a3 X.ss.length p.c3) ys ∧ w.rowIs (w0.heap.size + 1) 49 4 (box4 (.int .i64 0) noS noS noS)
theorem QInv.later {w0 w w' : World} {g n k : Nat} {X : Vc} {p : Sl} {ys : List Val} (h : QInv w0 w g n k X p ys) (hb : Below w.heap.size w w') : QInv w0 w' g n k X p ys := ⟨h.1.later hb, rowIs_later h.2 hb⟩
theorem QInv.step {w0 w : World} {g n k : Nat} {X : Vc} {p : Sl} {ys : List Val} {y : Val} (h : QInv w0 w g n k X p ys) (hg : w0.heap.size + 1 < g) (hy : ys[k]? = some y) :
    QInv w0 (((w.setCell ⟨g, k * 3, none⟩ (.int .i64 y.k)).setCell ⟨g, k * 3 + 1, none⟩ (.int .i64 y.n)).setCell ⟨g, k * 3 + 2, none⟩ (.string y.s)) g n (k + 1) X p ys :=
  ⟨h.1.step (by omega) (by omega) hy, ((h.2.setOther (by simp; omega) _).setOther (by simp; omega) _).setOther (by simp; omega) _⟩
theorem bb_facts {w w' : World} {a b c d : Value} (h : Below ((w.alloc (.cells #[a, b, c, d] 49)).alloc (.cells #[.int .i64 0, .slice none 0 0, .slice none 0 0, .slice none 0 0] 49)).heap.size ((w.alloc (.cells #[a, b, c, d] 49)).alloc (.cells #[.int .i64 0, .slice none 0 0, .slice none 0 0, .slice none 0 0] 49)) w') :
    w'.rowIs w.heap.size 49 4 (box4 a b c d) ∧ w'.rowIs (w.heap.size + 1) 49 4 (box4 (.int .i64 0) noS noS noS) ∧ Below w.heap.size w w' := by
  refine ⟨rowIs_later ((box4_alloc w a b c d).alloc _) h, ?_, below_step (below_alloc (below_alloc (Below.refl _ _) _) _) h⟩
  have := rowIs_later (box4_alloc (w.alloc (.cells #[a, b, c, d] 49)) (.int .i64 0) noS noS noS) h
  simpa using this
theorem below_set4' {w0 w : World} (h : Below w0.heap.size w0 w) (v0 v1 v2 v3 : Value) : Below w0.heap.size w0 ((((w.setCell ⟨w0.heap.size + 1, 0, none⟩ v0).setCell ⟨w0.heap.size + 1, 1, none⟩ v1).setCell ⟨w0.heap.size + 1, 2, none⟩ v2).setCell ⟨w0.heap.size + 1, 3, none⟩ v3) := below_set4 h (by omega) _ _ _ _

end Go.Proofs.YtbdkpkpncmagoaaGreat
set_option linter.unusedSimpArgs false
set_option linter.unusedVariables false
namespace Go.Proofs.YtbdkpkpncmagoaaGreat
open Go.RowKit Go.Sort

/-- A value as a column of this kind has it. -/
def Fine (k : Int) (z : Val) : Prop := cleanV z = z ∧ badK k z = false ∧ largeB z.s = false
theorem fromV_fine {k : Int} {zs : List Val} (hk : kindB k = true) (h : ∀ z ∈ zs, Fine k z) : fromV k zs = (laidV k zs, 0) := by
  have e : zs.map cleanV = zs := by
    conv => rhs; rw [← List.map_id zs]
    exact List.map_congr_left fun z hz => (h z hz).1
  have h1 : zs.any (badK k) = false := by rw [List.any_eq_false]; intro z hz; rw [(h z hz).2.1]; simp
  have h2 : zs.any (fun z => largeB z.s) = false := by rw [List.any_eq_false]; intro z hz; rw [(h z hz).2.2]; simp
  rw [fromV, if_neg (by rw [hk]; simp), e, if_neg (by rw [h1]; simp), if_neg (by rw [h2]; simp)]
theorem empty_small : largeB ⟨#[]⟩ = false := by rfl
theorem at_fine {X : Vc} (hg : goodB X = true) (i : Nat) : Fine X.k (atV X i) := by
  unfold atV
  split
  · exact ⟨rfl, rfl, empty_small⟩
  · rcases Bool.eq_false_or_eq_true (X.k == 1) with k1 | k1
    · rw [if_pos k1]
      refine ⟨rfl, ?_, empty_small⟩
      have := beq_iff_eq.1 k1
      simp [badK, Val.num, this]
    · rcases good_kinds hg with ⟨k1', _⟩ | ⟨_, k2, _⟩
      · rw [k1] at k1'; cases k1'
      · rw [k1]
        have e2 := beq_iff_eq.1 k2
        refine ⟨by simp [cleanV, Val.str], by simp [badK, Val.str, e2], ?_⟩
        have hl : X.ss.any largeB = false := by
          unfold goodB at hg
          rw [k1, k2] at hg
          simp at hg
          rw [List.any_eq_false]
          intro s hs
          simp [hg.2 s hs]
        simp only [Val.str, if_false, Bool.false_eq_true]
        by_cases hi : i < X.ss.length
        · have hm : X.ss[i] ∈ X.ss := List.getElem_mem hi
          rw [List.any_eq_false] at hl
          simp [List.getD, List.getElem?_eq_getElem hi]
          simpa using hl _ hm
        · simp [List.getD, List.getElem?_eq_none (by omega : X.ss.length ≤ i)]
          exact empty_small
theorem good_kindV {X : Vc} (hg : goodB X = true) : kindB X.k = true := by
  rcases good_kinds hg with ⟨k1, _⟩ | ⟨_, k2, _⟩
  · simp [kindB, beq_iff_eq.1 k1]
  · simp [kindB, beq_iff_eq.1 k2]
theorem pick_from {X : Vc} (hg : goodB X = true) (places : List Int) : fromV X.k (pickL X places) = (laidV X.k (pickL X places), 0) :=
  fromV_fine (good_kindV hg) fun z hz => by
    obtain ⟨pl, _, rfl⟩ := List.mem_map.1 hz
    exact at_fine hg _

end Go.Proofs.YtbdkpkpncmagoaaGreat
set_option linter.unusedSimpArgs false
set_option linter.unusedVariables false
namespace Go.Proofs.YtbdkpkpncmagoaaGreat
open Go.RowKit Go.Sort

theorem Tryz.info3 : (Tryz.prog.info? 3).map (fun i => (i.zero, i.size, i.bytes)) = some (some (.int .i64 0), 1, 8) := by kernel_rfl
/-- The places below k at which a number stands that is not 0. -/
def plN (ys : List Val) : Nat → List Int
  | 0 => []
  | k + 1 => plN ys k ++ (if trueB (ys.getD k .null) then [(k : Int)] else [])
theorem plN_len (ys : List Val) : ∀ k, (plN ys k).length ≤ k
  | 0 => Nat.le_refl _
  | k + 1 => by have := plN_len ys k; simp only [plN, List.length_append]; split <;> simp <;> omega
theorem plN_yes {ys : List Val} {k : Nat} {y : Val} (h : ys[k]? = some y) (ht : trueB y = true) : plN ys (k + 1) = plN ys k ++ [(k : Int)] := by
  simp [plN, h, ht]
theorem plN_no {ys : List Val} {k : Nat} {y : Val} (h : ys[k]? = some y) (ht : trueB y = false) : plN ys (k + 1) = plN ys k := by
  simp [plN, h, ht]
def OwnI (w : World) (base : Nat) (v : Value) (zs : List Int) : Prop := w.ownsRow base 3 1 v zs.length (zs.map (Value.int .i64))
theorem ownI_app {w : World} {base : Nat} {v : Value} {zs : List Int} {x : Int} (h : w.ownsRow base 3 1 v (zs.length + 1) (zs.map (Value.int .i64) ++ [.int .i64 x])) : OwnI w base v (zs ++ [x]) := by
  unfold OwnI
  rw [List.length_append, List.map_append]
  simpa using h

end Go.Proofs.YtbdkpkpncmagoaaGreat
set_option linter.unusedSimpArgs false
set_option linter.unusedVariables false
namespace Go.Proofs.YtbdkpkpncmagoaaGreat
open Go.RowKit Go.Sort

theorem below_drewNV {W0 w : World} (h : Below W0.heap.size W0 w) (n : Nat) : Below W0.heap.size W0 (World.drewN w n) := by
  induction n with
  | zero => exact h
  | succ n ih => exact ih.drew

/-- What 'At' answers. -/
def atI (X : Vc) (i : Int) : Val := if 0 ≤ i ∧ i < ((valsV X).length : Int) then (valsV X).getD i.toNat .null else .null
theorem atI_in {X : Vc} {i : Int} (h0 : 0 ≤ i) (h1 : i < ((valsV X).length : Int)) : goodB X = true ∧ i.toNat < X.nl.length ∧ atI X i = atV X i.toNat := by
  cases hg : goodB X
  · rw [vals_none hg] at h1; simp at h1; omega
  · have hl := vals_len hg
    have hi : i.toNat < X.nl.length := by omega
    refine ⟨rfl, hi, ?_⟩
    rw [atI, if_pos ⟨h0, h1⟩, List.getD_eq_getElem?_getD, vals_at hg hi]; rfl

theorem bv_facts {w w' : World} {a b c d : Value} (h : Below ((w.alloc (.cells #[a, b, c, d] 49)).alloc (.cells #[.int .i64 0, .int .i64 0, .string ⟨#[]⟩] 42)).heap.size ((w.alloc (.cells #[a, b, c, d] 49)).alloc (.cells #[.int .i64 0, .int .i64 0, .string ⟨#[]⟩] 42)) w') :
    w'.rowIs w.heap.size 49 4 (box4 a b c d) ∧ w'.rowIs (w.heap.size + 1) 42 3 (box3 Val.null) ∧ Below w.heap.size w w' := by
  refine ⟨rowIs_later ((box4_alloc w a b c d).alloc _) h, ?_, below_step (below_alloc (below_alloc (Below.refl _ _) _) _) h⟩
  have := rowIs_later (box3_alloc (w.alloc (.cells #[a, b, c, d] 49)) Val.null) h
  simpa using this

end Go.Proofs.YtbdkpkpncmagoaaGreat
set_option linter.unusedSimpArgs false
set_option linter.unusedVariables false
namespace Go.Proofs.YtbdkpkpncmagoaaGreat
open Go.RowKit Go.Sort

/-- A slice of rows, as it lies in memory. -/
def RowsAt (w : World) (a : Option Addr) (rs : List (List Val)) : Prop :=
  rs = [] ∨ ∃ b off, a = some ⟨b, off, none⟩ ∧ ∀ i r, rs[i]? = some r → ∃ ra rc, w.cell? ⟨b, off + i, none⟩ = some (.slice ra r.length rc) ∧ RowAt w ra r
theorem RowsAt.later {w w' : World} {a : Option Addr} {rs : List (List Val)} (h : RowsAt w a rs) (hb : Below w.heap.size w w') : RowsAt w' a rs := by
  rcases h with h | ⟨b, off, ha, h⟩
  · exact .inl h
  · exact .inr ⟨b, off, ha, fun i r hr => by obtain ⟨ra, rc, h1, h2⟩ := h i r hr; exact ⟨ra, rc, cell_later hb h1, h2.later hb⟩⟩

end Go.Proofs.YtbdkpkpncmagoaaGreat
set_option linter.unusedSimpArgs false
set_option linter.unusedVariables false
namespace Go.Proofs.YtbdkpkpncmagoaaGreat
open Go.RowKit Go.Sort

/-- Bytes as a text. -/
def bs (l : List UInt8) : ByteArray := ⟨l.toArray⟩
theorem bs_size (l : List UInt8) : (bs l).size = l.length := by simp [bs, ByteArray.size]
theorem bs_take (l : List UInt8) (n : Nat) (h : n ≤ l.length) : (bs l).extract 0 n = bs (l.take n) := by
  apply ByteArray.ext
  simp [bs, ByteArray.data_extract]
theorem bs_drop (l : List UInt8) (n : Nat) : (bs l).extract n l.length = bs (l.drop n) := by
  apply ByteArray.ext
  simp [bs, ByteArray.data_extract]
  rw [List.take_of_length_le (by simp)]
/-- The reader in block b: what it has not read yet. -/
def Rd (w : World) (b : Nat) (l : List UInt8) : Prop := w.rowIs b 133 1 fun _ => .string (bs l)
/-- New blocks alone, and the reader's, have turned. -/
def Gr (w w' : World) (b : Nat) : Prop := w.grownBy w' (some b)
theorem Gr.refl (w : World) (b : Nat) : Gr w w b := World.grownBy.refl _ _
theorem Gr.trans {a b c : World} {k : Nat} (h : Gr a b k) (g : Gr b c k) : Gr a c k :=
  ⟨g.os.trans h.os, g.tape.trans h.tape, g.output.trans h.output, Nat.le_trans h.size g.size, fun i hi hne => by rw [g.block i (Nat.lt_of_lt_of_le hi h.size) hne, h.block i hi hne]⟩
theorem Gr.of_below {w w' : World} (h : Below w.heap.size w w') (b : Nat) : Gr w w' b := ⟨h.os, h.tape, h.output, h.size, fun i hi _ => h.block i hi⟩
theorem Gr.alloc (w : World) (b : Nat) (o : Obj) : Gr w (w.alloc o) b := World.grownBy_alloc w o _
/-- Damage is thrown. -/
abbrev dmg : Ending := .panicked [{ v := .iface 130 (.agg #[]), recovered := false }]

theorem ensure_yes (w : World) : Calls Tryz.prog 103 #[.bool true] w fun e w' => e = .returned (.tuple #[]) ∧ w' = w := by
  go_enter Tryz.func103, Tryz.ntmps103
  go_wp2
  go_end0
  exact ⟨rfl, rfl⟩
theorem ensure_no (w : World) : Calls Tryz.prog 103 #[.bool false] w fun e w' => e = dmg ∧ w' = w := by
  go_enter Tryz.func103, Tryz.ntmps103
  go_wp2
  exact ⟨rfl, rfl, rfl⟩

theorem ensureF (t : Bool) (h : t = false) (w : World) : Calls Tryz.prog 103 #[.bool t] w fun e w' => e = dmg ∧ w' = w := by subst h; exact ensure_no w
theorem ensureT (t : Bool) (h : t = true) (w : World) : Calls Tryz.prog 103 #[.bool t] w fun e w' => e = .returned (.tuple #[]) ∧ w' = w := by subst h; exact ensure_yes w

theorem Rd.cell {w : World} {b : Nat} {l : List UInt8} (h : Rd w b l) : w.cell? ⟨b, 0, none⟩ = some (.string (bs l)) := World.rowIs.cell h (by decide)
theorem Rd.set {w : World} {b : Nat} {l : List UInt8} (h : Rd w b l) (l' : List UInt8) : Rd (w.setCell ⟨b, 0, none⟩ (.string (bs l'))) b l' :=
  World.rowIs.congr (World.rowIs.set h 0 (.string (bs l'))) (fun i hi => by have : i = 0 := by omega
                                                                            subst this; simp)
theorem Gr.set (w : World) (b : Nat) (v : Value) : Gr w (w.setCell ⟨b, 0, none⟩ v) b := grown_set w b 0 v
set_option maxHeartbeats 1000000 in
theorem take_yes (b n : Nat) (l : List UInt8) (w : World) (h : Rd w b l) (hl : l.length ≤ 140737488355328) (hn : n ≤ l.length) :
    Calls Tryz.prog 113 #[.pointer (some ⟨b, 0, none⟩), .int .i64 n] w fun e w' => e = .returned (.string (bs (l.take n))) ∧ w' = w.setCell ⟨b, 0, none⟩ (.string (bs (l.drop n))) := by
  have hc := h.cell
  have hf := World.rowIs.frozen h 0
  have hs := bs_size l
  have hd : decide ((n : Int) ≤ (l.length : Int)) = true := by simp; omega
  go_enter Tryz.func113, Tryz.ntmps113
  go_wp2_with (go_at_call 103; refine (ensure_yes _).mono ?_; rintro e w' ⟨rfl, rfl⟩)
  go_ret
  exact ⟨by rw [bs_take l n hn]; rfl, by rw [bs_drop]⟩
set_option maxHeartbeats 1000000 in
theorem take_no (b n : Nat) (l : List UInt8) (w : World) (h : Rd w b l) (hl : l.length ≤ 140737488355328) (hn : l.length < n) :
    Calls Tryz.prog 113 #[.pointer (some ⟨b, 0, none⟩), .int .i64 n] w fun e w' => e = dmg ∧ w' = w := by
  have hc := h.cell
  have hf := World.rowIs.frozen h 0
  have hs := bs_size l
  have hd : ¬ (n : Int) ≤ (l.length : Int) := by omega
  go_enter Tryz.func113, Tryz.ntmps113
  go_wp2_with (go_at_call 103; refine (ensure_no _).mono ?_; rintro e w' ⟨rfl, rfl⟩)
  exact ⟨rfl, rfl, rfl⟩
end Go.Proofs.YtbdkpkpncmagoaaGreat

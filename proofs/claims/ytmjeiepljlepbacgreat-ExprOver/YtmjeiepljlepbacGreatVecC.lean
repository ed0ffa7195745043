import Derived.Test.YtmjeiepljlepbacGreatVecA
set_option linter.unusedSimpArgs false
set_option maxRecDepth 100000
set_option linter.unusedVariables false
namespace Go.Proofs.YtmjeiepljlepbacGreat.Vv
open Go.RowKit Go.Sort

def noS : Value := .slice none 0 0
/-- What 'laid' has laid in the first k places: B the heap's size at the call. -/
def LInv (w0 w : World) (n k : Nat) (kind : Int) (s1 s2 s3 : Value) (t : Nat) (c1 c2 : List Value) : Prop :=
  Below w0.heap.size w0 w ∧ w.rowIs w0.heap.size 29 4 (box4 (.int .i64 0) noS noS noS) ∧ (∃ F, w.rowIs (w0.heap.size + 1) 4 n F ∧ Holds F k c1) ∧
  w.rowIs (w0.heap.size + 1 + 1) 29 4 (box4 (.int .i64 kind) s1 s2 s3) ∧ (∃ G, w.rowIs (w0.heap.size + 1 + 1 + 1) t n G ∧ Holds G k c2)
theorem box4_arr (a b c d : Value) : ∀ i, i < #[a, b, c, d].size → #[a, b, c, d][i]? = some (box4 a b c d i) := by
  intro i hi
  match i, hi with
  | 0, _ => rfl
  | 1, _ => rfl
  | 2, _ => rfl
  | 3, _ => rfl
theorem LInv.start (w : World) (n : Nat) (kind : Int) (s1 s2 s3 z : Value) (t : Nat) (c1 c2 : List Value) :
    LInv w ((((w.alloc (.cells #[.int .i64 0, .slice none 0 0, .slice none 0 0, .slice none 0 0] 29)).alloc (.cells (madeCells #[.bool false] n) 4)).alloc (.cells #[.int .i64 kind, s1, s2, s3] 29)).alloc (.cells (madeCells #[z] n) t)) n 0 kind s1 s2 s3 t c1 c2 := by
  refine ⟨by repeat (first | exact Below.refl _ _ | refine Below.alloc ?_ (by simp <;> omega) _), ?_, ⟨fun _ => .bool false, ?_, Holds.zero _ _⟩, ?_, ⟨fun _ => z, ?_, Holds.zero _ _⟩⟩
  · exact ((((World.rowIs_alloc w _ 29 _ (box4_arr _ _ _ _))).alloc _).alloc _).alloc _
  · have h := ((World.rowIs_made (w.alloc (.cells #[.int .i64 0, .slice none 0 0, .slice none 0 0, .slice none 0 0] 29)) (.bool false) n 4).alloc (.cells #[.int .i64 kind, s1, s2, s3] 29)).alloc (.cells (madeCells #[z] n) t)
    simpa using h
  · have h := (World.rowIs_alloc ((w.alloc (.cells #[.int .i64 0, .slice none 0 0, .slice none 0 0, .slice none 0 0] 29)).alloc (.cells (madeCells #[.bool false] n) 4)) _ 29 _ (box4_arr (.int .i64 kind) s1 s2 s3)).alloc (.cells (madeCells #[z] n) t)
    simpa using h
  · have h := World.rowIs_made (((w.alloc (.cells #[.int .i64 0, .slice none 0 0, .slice none 0 0, .slice none 0 0] 29)).alloc (.cells (madeCells #[.bool false] n) 4)).alloc (.cells #[.int .i64 kind, s1, s2, s3] 29)) z n t
    simpa using h
theorem LInv.step {w0 w : World} {n k : Nat} {kind : Int} {s1 s2 s3 : Value} {t : Nat} {c1 c2 : List Value} {v1 v2 : Value} (h : LInv w0 w n k kind s1 s2 s3 t c1 c2) (h1 : c1[k]? = some v1) (h2 : c2[k]? = some v2) (o : Obj) :
    LInv w0 (((w.setCell ⟨w0.heap.size + 1, k, none⟩ v1).setCell ⟨w0.heap.size + 1 + 1 + 1, k, none⟩ v2).alloc o) n (k + 1) kind s1 s2 s3 t c1 c2 := by
  obtain ⟨hb, hr, ⟨F, hF, hF'⟩, hx, ⟨G, hG, hG'⟩⟩ := h
  have hz := hG.lt
  refine ⟨((hb.setCell (by simp <;> omega) _).setCell (by simp <;> omega) _).alloc (by simp; omega) _, ?_, ⟨_, ?_, hF'.step h1⟩, ?_, ⟨_, ?_, hG'.step h2⟩⟩
  · exact ((hr.setOther (by simp) _).setOther (by simp; omega) _).alloc _
  · exact ((hF.set k v1).setOther (by simp) _).alloc _
  · exact ((hx.setOther (by simp) _).setOther (by simp) _).alloc _
  · exact ((hG.setOther (by simp <;> omega) _).set k v2).alloc _

theorem LisAt.set {w : World} {g o : Nat} {cs : List Value} (h : LisAt w (some ⟨g, o, none⟩) cs) (a : Addr) (ha : g ≠ a.block) (v : Value) : LisAt (w.setCell a v) (some ⟨g, o, none⟩) cs := by
  rcases h with h | ⟨b, off, e, h⟩
  · exact .inl h
  · cases e
    exact .inr ⟨g, o, rfl, fun i x hx => (World.cell?_of_block (w := w) (Go.Deep.blk_setCell_other _ _ _ _ ha)).trans (h i x hx)⟩
theorem LisAt.set4 {w : World} {g o B : Nat} {cs : List Value} (h : LisAt w (some ⟨g, o, none⟩) cs) (hB : g ≠ B) (v0 v1 v2 v3 : Value) : LisAt ((((w.setCell ⟨B, 0, none⟩ v0).setCell ⟨B, 1, none⟩ v1).setCell ⟨B, 2, none⟩ v2).setCell ⟨B, 3, none⟩ v3) (some ⟨g, o, none⟩) cs :=
  (((h.set _ hB _).set _ hB _).set _ hB _).set _ hB _
theorem below_set4 {w0 w : World} (h : Below w0.heap.size w0 w) {B : Nat} (hB : w0.heap.size ≤ B) (v0 v1 v2 v3 : Value) : Below w0.heap.size w0 ((((w.setCell ⟨B, 0, none⟩ v0).setCell ⟨B, 1, none⟩ v1).setCell ⟨B, 2, none⟩ v2).setCell ⟨B, 3, none⟩ v3) :=
  (((h.setCell hB _).setCell hB _).setCell hB _).setCell hB _

theorem nlOf_at {xs : List Val} {k : Nat} {x : Val} (h : xs[k]? = some x) : ((nlOf xs).map Value.bool)[k]? = some (.bool (x.k == 0)) := by simp [nlOf, h]

set_option maxHeartbeats 2000000 in
theorem laid_int (a : Option Addr) (c : Nat) (xs : List Val) (w : World) (hl : xs.length * 32 ≤ 140737488355328) (ha : RowAt w a xs) :
    Calls Tryz.prog 49 #[.int .i64 1, .slice a xs.length c] w fun e w' => ∃ p, e = .returned (vecV (laidV 1 xs) p) ∧ VecAt w' (laidV 1 xs) p ∧ Fresh w.heap.size p ∧ Below w.heap.size w w' := by
  obtain ⟨i4, hi4, z40, z41, z42⟩ := info_parts Tryz.info4
  obtain ⟨i2, hi2, z20, z21, z22⟩ := info_parts Tryz.info2
  generalize hX : laidV 1 xs = X
  have HX := hide hX
  clear hX
  have HA := hide ha
  clear ha
  go_enter Tryz.func49, Tryz.ntmps49
  go_wp2_with (first
    | (at_make; refine wpList_make_row _ rfl (.tmp 10) (.tmp 10) 25 rfl 4 i4 (.bool false) Tryz.underlying25 hi4 z40 z41 rfl .i64 .i64 xs.length rfl rfl (by rw [z42]; omega) (by omega) ?_)
    | (at_make; refine wpList_make_row _ rfl (.tmp 16) (.tmp 16) 26 rfl 2 i2 (.int .i64 0) Tryz.underlying26 hi2 z20 z21 rfl .i64 .i64 xs.length rfl rfl (by rw [z22]; omega) (by omega) ?_)
    | fail)
  go_loopw [25] (fun i wr => ∃ k : Nat, k ≤ xs.length ∧ i = .int .i64 k ∧ LInv w wr xs.length k 1 (.slice (some ⟨w.heap.size + 1, 0, none⟩) xs.length xs.length) (.slice (some ⟨w.heap.size + 1 + 1 + 1, 0, none⟩) xs.length xs.length) noS 2 ((nlOf xs).map Value.bool) ((xs.map (·.n)).map (Value.int .i64))) (fun i _ => xs.length - (intOf i).toNat)
  case atStart => exact ⟨0, Nat.zero_le _, rfl, LInv.start _ _ _ _ _ _ _ _ _ _⟩
  case round =>
    obtain ⟨k, hk, rfl, hI⟩ := hrel
    have HI := hide hI
    obtain ⟨hb, hr, ⟨F, hF, hF'⟩, hx, ⟨G, hG, hG'⟩⟩ := hI
    have ha' := (unhide HA).later hb
    have hz := hG.lt
    by_cases h1 : k < xs.length
    · obtain ⟨x, hx'⟩ : ∃ x, xs[k]? = some x := ⟨_, List.getElem?_eq_getElem h1⟩
      rcases ha' with e | ⟨ba, oa, rfl, hca⟩
      · subst e; simp at h1
      obtain ⟨c0, c1, c2⟩ := hca k x hx'
      have HS := hide (nlOf_at hx')
      have HT : Hid (((xs.map (·.n)).map (Value.int .i64))[k]? = some (.int .i64 x.n)) := by show _ = _; simp [hx']
      have i1 : (k : Int) < (xs.length : Int) := by omega
      have b0 : wr.cell? ⟨w.heap.size + 1 + 1, 0, none⟩ = some (.int .i64 1) := hx.cell (by omega)
      have b1 : wr.cell? ⟨w.heap.size + 1 + 1, 1, none⟩ = some (.slice (some ⟨w.heap.size + 1, 0, none⟩) xs.length xs.length) := hx.cell (by omega)
      have b2 : wr.cell? ⟨w.heap.size + 1 + 1, 2, none⟩ = some (.slice (some ⟨w.heap.size + 1 + 1 + 1, 0, none⟩) xs.length xs.length) := hx.cell (by omega)
      have f1 : wr.frozen? ⟨w.heap.size + 1, k, none⟩ = false := hF.frozen k
      have f2 : wr.frozen? ⟨w.heap.size + 1 + 1 + 1, k, none⟩ = false := hG.frozen k
      have n1 : w.heap.size + 1 < wr.heap.size := by omega
      have n2 : w.heap.size + 1 + 1 < wr.heap.size := by omega
      have g1 := hF.cell h1
      have g2 := hG.cell h1
      clear hca hx' hF hF' hG hG' hr hx hb
      go_wp2
      go_roundw
      case rel => exact ⟨k + 1, by omega, by go_num, (unhide HI).step (unhide HS) (unhide HT) _⟩
      case measure => simp [intOf]; omega
    · have e : k = xs.length := by omega
      have i1 : ¬ (k : Int) < (xs.length : Int) := by omega
      have b0 : wr.cell? ⟨w.heap.size + 1 + 1, 0, none⟩ = some (.int .i64 1) := hx.cell (by omega)
      have b1 : wr.cell? ⟨w.heap.size + 1 + 1, 1, none⟩ = some (.slice (some ⟨w.heap.size + 1, 0, none⟩) xs.length xs.length) := hx.cell (by omega)
      have b2 : wr.cell? ⟨w.heap.size + 1 + 1, 2, none⟩ = some (.slice (some ⟨w.heap.size + 1 + 1 + 1, 0, none⟩) xs.length xs.length) := hx.cell (by omega)
      have b3 : wr.cell? ⟨w.heap.size + 1 + 1, 3, none⟩ = some (.slice none 0 0) := hx.cell (by omega)
      have r0 : wr.cell? ⟨w.heap.size, 0, none⟩ = some (.int .i64 0) := hr.cell (by omega)
      have r1 : wr.cell? ⟨w.heap.size, 1, none⟩ = some (.slice none 0 0) := hr.cell (by omega)
      have r2 : wr.cell? ⟨w.heap.size, 2, none⟩ = some (.slice none 0 0) := hr.cell (by omega)
      have r3 : wr.cell? ⟨w.heap.size, 3, none⟩ = some (.slice none 0 0) := hr.cell (by omega)
      have f0 : wr.frozen? ⟨w.heap.size, 0, none⟩ = false := hr.frozen _
      have f1 : wr.frozen? ⟨w.heap.size, 1, none⟩ = false := hr.frozen _
      have f2 : wr.frozen? ⟨w.heap.size, 2, none⟩ = false := hr.frozen _
      have f3 : wr.frozen? ⟨w.heap.size, 3, none⟩ = false := hr.frozen _
      have HE : Hid (LisAt wr (some ⟨w.heap.size + 1, 0, none⟩) ((nlOf xs).map Value.bool) ∧ LisAt wr (some ⟨w.heap.size + 1 + 1 + 1, 0, none⟩) ((xs.map (·.n)).map (Value.int .i64))) := by
        rw [e] at hF' hG'
        exact ⟨lis_of_row hF (by simp [nlOf]) hF', lis_of_row hG (by simp) hG'⟩
      have HB := hide hb
      clear hF hF' hG hG' hr hx hb ha' e
      go_wp2
      refine bodyPost_ret (v := .agg #[.int .i64 1, .slice (some ⟨w.heap.size + 1, 0, none⟩) xs.length xs.length, .slice (some ⟨w.heap.size + 1 + 1 + 1, 0, none⟩) xs.length xs.length, .slice none 0 0]) (by simp [results, Tryz.results49, go_sem, *]) rfl ?_
      have hX := unhide HX
      subst hX
      refine ⟨⟨some ⟨w.heap.size + 1, 0, none⟩, xs.length, some ⟨w.heap.size + 1 + 1 + 1, 0, none⟩, xs.length, none, 0⟩, ?_, ⟨?_, ?_, ?_⟩, ⟨by simp; try omega, by simp; try omega, by simp; try omega⟩, below_set4 (unhide HB) (Nat.le_refl _) _ _ _ _⟩
      · rw [vecV_open]; simp [laidV, nlOf]
      · exact (unhide HE).1.set4 (by omega) _ _ _ _
      · exact (unhide HE).2.set4 (by omega) _ _ _ _
      · exact .inl rfl
set_option maxHeartbeats 2000000 in
theorem laid_text (a : Option Addr) (c : Nat) (kind : Int) (h0 : (kind == 1) = false) (xs : List Val) (w : World) (hl : xs.length * 32 ≤ 140737488355328) (ha : RowAt w a xs) :
    Calls Tryz.prog 49 #[.int .i64 kind, .slice a xs.length c] w fun e w' => ∃ p, e = .returned (vecV (laidV kind xs) p) ∧ VecAt w' (laidV kind xs) p ∧ Fresh w.heap.size p ∧ Below w.heap.size w w' := by
  obtain ⟨i4, hi4, z40, z41, z42⟩ := info_parts Tryz.info4
  obtain ⟨i2, hi2, z20, z21, z22⟩ := info_parts Tryz.info9
  generalize hX : laidV kind xs = X
  have HX := hide hX
  clear hX
  have HA := hide ha
  clear ha
  go_enter Tryz.func49, Tryz.ntmps49
  go_wp2_with (first
    | (at_make; refine wpList_make_row _ rfl (.tmp 10) (.tmp 10) 25 rfl 4 i4 (.bool false) Tryz.underlying25 hi4 z40 z41 rfl .i64 .i64 xs.length rfl rfl (by rw [z42]; omega) (by omega) ?_)
    | (at_make; refine wpList_make_row _ rfl (.tmp 20) (.tmp 20) 27 rfl 9 i2 (.string ⟨#[]⟩) Tryz.underlying27 hi2 z20 z21 rfl .i64 .i64 xs.length rfl rfl (by rw [z22]; omega) (by omega) ?_)
    | fail)
  go_loopw [25] (fun i wr => ∃ k : Nat, k ≤ xs.length ∧ i = .int .i64 k ∧ LInv w wr xs.length k kind (.slice (some ⟨w.heap.size + 1, 0, none⟩) xs.length xs.length) noS (.slice (some ⟨w.heap.size + 1 + 1 + 1, 0, none⟩) xs.length xs.length) 9 ((nlOf xs).map Value.bool) ((xs.map (·.s)).map Value.string)) (fun i _ => xs.length - (intOf i).toNat)
  case atStart => exact ⟨0, Nat.zero_le _, rfl, LInv.start _ _ _ _ _ _ _ _ _ _⟩
  case round =>
    obtain ⟨k, hk, rfl, hI⟩ := hrel
    have HI := hide hI
    obtain ⟨hb, hr, ⟨F, hF, hF'⟩, hx, ⟨G, hG, hG'⟩⟩ := hI
    have ha' := (unhide HA).later hb
    have hz := hG.lt
    by_cases h1 : k < xs.length
    · obtain ⟨x, hx'⟩ : ∃ x, xs[k]? = some x := ⟨_, List.getElem?_eq_getElem h1⟩
      rcases ha' with e | ⟨ba, oa, rfl, hca⟩
      · subst e; simp at h1
      obtain ⟨c0, c1, c2⟩ := hca k x hx'
      have HS := hide (nlOf_at hx')
      have HT : Hid (((xs.map (·.s)).map Value.string)[k]? = some (.string x.s)) := by show _ = _; simp [hx']
      have i1 : (k : Int) < (xs.length : Int) := by omega
      have b0 : wr.cell? ⟨w.heap.size + 1 + 1, 0, none⟩ = some (.int .i64 kind) := hx.cell (by omega)
      have b1 : wr.cell? ⟨w.heap.size + 1 + 1, 1, none⟩ = some (.slice (some ⟨w.heap.size + 1, 0, none⟩) xs.length xs.length) := hx.cell (by omega)
      have b2 : wr.cell? ⟨w.heap.size + 1 + 1, 3, none⟩ = some (.slice (some ⟨w.heap.size + 1 + 1 + 1, 0, none⟩) xs.length xs.length) := hx.cell (by omega)
      have f1 : wr.frozen? ⟨w.heap.size + 1, k, none⟩ = false := hF.frozen k
      have f2 : wr.frozen? ⟨w.heap.size + 1 + 1 + 1, k, none⟩ = false := hG.frozen k
      have n1 : w.heap.size + 1 < wr.heap.size := by omega
      have n2 : w.heap.size + 1 + 1 < wr.heap.size := by omega
      have g1 := hF.cell h1
      have g2 := hG.cell h1
      clear hca hx' hF hF' hG hG' hr hx hb
      go_wp2
      go_roundw
      case rel => exact ⟨k + 1, by omega, by go_num, (unhide HI).step (unhide HS) (unhide HT) _⟩
      case measure => simp [intOf]; omega
    · have e : k = xs.length := by omega
      have i1 : ¬ (k : Int) < (xs.length : Int) := by omega
      have b0 : wr.cell? ⟨w.heap.size + 1 + 1, 0, none⟩ = some (.int .i64 kind) := hx.cell (by omega)
      have b1 : wr.cell? ⟨w.heap.size + 1 + 1, 1, none⟩ = some (.slice (some ⟨w.heap.size + 1, 0, none⟩) xs.length xs.length) := hx.cell (by omega)
      have b2 : wr.cell? ⟨w.heap.size + 1 + 1, 3, none⟩ = some (.slice (some ⟨w.heap.size + 1 + 1 + 1, 0, none⟩) xs.length xs.length) := hx.cell (by omega)
      have b3 : wr.cell? ⟨w.heap.size + 1 + 1, 2, none⟩ = some (.slice none 0 0) := hx.cell (by omega)
      have r0 : wr.cell? ⟨w.heap.size, 0, none⟩ = some (.int .i64 0) := hr.cell (by omega)
      have r1 : wr.cell? ⟨w.heap.size, 1, none⟩ = some (.slice none 0 0) := hr.cell (by omega)
      have r2 : wr.cell? ⟨w.heap.size, 2, none⟩ = some (.slice none 0 0) := hr.cell (by omega)
      have r3 : wr.cell? ⟨w.heap.size, 3, none⟩ = some (.slice none 0 0) := hr.cell (by omega)
      have f0 : wr.frozen? ⟨w.heap.size, 0, none⟩ = false := hr.frozen _
      have f1 : wr.frozen? ⟨w.heap.size, 1, none⟩ = false := hr.frozen _
      have f2 : wr.frozen? ⟨w.heap.size, 2, none⟩ = false := hr.frozen _
      have f3 : wr.frozen? ⟨w.heap.size, 3, none⟩ = false := hr.frozen _
      have HE : Hid (LisAt wr (some ⟨w.heap.size + 1, 0, none⟩) ((nlOf xs).map Value.bool) ∧ LisAt wr (some ⟨w.heap.size + 1 + 1 + 1, 0, none⟩) ((xs.map (·.s)).map Value.string)) := by
        rw [e] at hF' hG'
        exact ⟨lis_of_row hF (by simp [nlOf]) hF', lis_of_row hG (by simp) hG'⟩
      have HB := hide hb
      clear hF hF' hG hG' hr hx hb ha' e
      go_wp2
      refine bodyPost_ret (v := .agg #[.int .i64 kind, .slice (some ⟨w.heap.size + 1, 0, none⟩) xs.length xs.length, .slice none 0 0, .slice (some ⟨w.heap.size + 1 + 1 + 1, 0, none⟩) xs.length xs.length]) (by simp [results, Tryz.results49, go_sem, *]) rfl ?_
      have h0' : ¬ kind = 1 := by simpa using h0
      have hX := unhide HX
      subst hX
      refine ⟨⟨some ⟨w.heap.size + 1, 0, none⟩, xs.length, none, 0, some ⟨w.heap.size + 1 + 1 + 1, 0, none⟩, xs.length⟩, ?_, ⟨?_, ?_, ?_⟩, ⟨by simp; try omega, by simp; try omega, by simp; try omega⟩, below_set4 (unhide HB) (Nat.le_refl _) _ _ _ _⟩
      · rw [vecV_open]; simp [laidV, nlOf, h0']
      · exact (unhide HE).1.set4 (by omega) _ _ _ _
      · left; simp [laidV, h0']
      · have e : (laidV kind xs).ss = xs.map (·.s) := by simp [laidV, h0']
        rw [e]
        exact (unhide HE).2.set4 (by omega) _ _ _ _
theorem laid_any (a : Option Addr) (c : Nat) (kind : Int) (xs : List Val) (w : World) (hl : xs.length * 32 ≤ 140737488355328) (ha : RowAt w a xs) :
    Calls Tryz.prog 49 #[.int .i64 kind, .slice a xs.length c] w fun e w' => ∃ p, e = .returned (vecV (laidV kind xs) p) ∧ VecAt w' (laidV kind xs) p ∧ Fresh w.heap.size p ∧ Below w.heap.size w w' := by
  by_cases h : (kind == 1) = true
  · obtain rfl := beq_iff_eq.1 h
    exact laid_int a c xs w hl ha
  · exact laid_text a c kind (by simpa using h) xs w hl ha
end Go.Proofs.YtmjeiepljlepbacGreat.Vv
set_option linter.unusedSimpArgs false
set_option maxRecDepth 100000
set_option linter.unusedVariables false
namespace Go.Proofs.YtmjeiepljlepbacGreat.Vv
open Go.RowKit Go.Sort

theorem wpList_make_rows {P : Program} (w : World) {ops : Array Oper} {rest : List Oper} {o : Oper} {a : Act} {Q : Exit → Act → World → Prop}
    (hg : o.guard = none) (l c : Operand) (t : TypeId) (hop : o.op = Op.makeSlice t l c)
    (e : TypeId) (i : TypeInfo) (z : Value) (ht : P.underlying t = some (.slice e)) (hi : P.info? e = some i) (hz : i.zero = some z) (size : Nat) (hsize : i.size = size)
    (kl kc : IntKind) (n : Nat) (hl : a.eval l = .int kl (n : Int)) (hc : a.eval c = .int kc (n : Int)) (hbytes : i.bytes * n ≤ 281474976710656) (h63 : n ≤ 9223372036854775807)
    (hK : wpList P ops Q rest (a.put o.dst (.slice (some ⟨w.heap.size, 0, none⟩) n n)) (w.alloc (.cells (madeCells z.cells (n * size)) e))) :
    wpList P ops Q (o :: rest) a w := by
  refine wpList_plain hg fun K hK' => ?_
  have hb' : (i.bytes : Int) * (n : Int) ≤ 281474976710656 := by
    have h : ((i.bytes * n : Nat) : Int) ≤ 281474976710656 := by omega
    rwa [Int.natCast_mul] at h
  have hrun := run_make (P := P) w t e i z ht hi hz kl kc n n (by omega) (Int.le_refl _) hb' (by omega)
  simp only [Int.toNat_natCast, hsize] at hrun
  unfold Oper.wp
  simp [execOp, hop, hl, hc, hrun, Result.andThen]
  exact hK' _ _ hK
theorem rowIs_any (w : World) (c : Array Value) (t : TypeId) : ∃ F, (w.alloc (.cells c t)).rowIs w.heap.size t c.size F :=
  ⟨fun i => (c[i]?).getD noS, World.rowIs_alloc w c t _ (fun i hi => by simp [hi])⟩

/-- What a row of values of the call's own holds up to k. -/
def Holds3 (F : Nat → Value) (k : Nat) (ys : List Val) : Prop := ∀ i x, i < k → ys[i]? = some x → F (i * 3) = .int .i64 x.k ∧ F (i * 3 + 1) = .int .i64 x.n ∧ F (i * 3 + 2) = .string x.s
theorem Holds3.zero (F : Nat → Value) (ys : List Val) : Holds3 F 0 ys := fun i x h => by omega
theorem Holds3.step {F : Nat → Value} {k : Nat} {ys : List Val} {y : Val} (h : Holds3 F k ys) (hv : ys[k]? = some y) :
    Holds3 (fun j => if j = k * 3 + 2 then .string y.s else if j = k * 3 + 1 then .int .i64 y.n else if j = k * 3 then .int .i64 y.k else F j) (k + 1) ys := by
  intro i x hi hx
  by_cases e : i = k
  · subst e; rw [hv] at hx; cases hx
    refine ⟨?_, ?_, ?_⟩ <;> simp
  · obtain ⟨h0, h1, h2⟩ := h i x (by omega) hx
    refine ⟨?_, ?_, ?_⟩
    · show (if i * 3 = k * 3 + 2 then _ else if i * 3 = k * 3 + 1 then _ else if i * 3 = k * 3 then _ else _) = _
      rw [if_neg (by omega), if_neg (by omega), if_neg (by omega), h0]
    · show (if i * 3 + 1 = k * 3 + 2 then _ else if i * 3 + 1 = k * 3 + 1 then _ else if i * 3 + 1 = k * 3 then _ else _) = _
      rw [if_neg (by omega), if_neg (by omega), if_neg (by omega), h1]
    · show (if i * 3 + 2 = k * 3 + 2 then _ else if i * 3 + 2 = k * 3 + 1 then _ else if i * 3 + 2 = k * 3 then _ else _) = _
      rw [if_neg (by omega), if_neg (by omega), if_neg (by omega), h2]
theorem row_of_row {w : World} {g t n : Nat} {F : Nat → Value} {ys : List Val} (h : w.rowIs g t (n * 3) F) (hl : ys.length = n) (hh : Holds3 F n ys) : RowAt w (some ⟨g, 0, none⟩) ys := by
  refine .inr ⟨g, 0, rfl, fun i x hx => ?_⟩
  have hi : i < n := by have := (List.getElem?_eq_some_iff.1 hx).1; omega
  obtain ⟨h0, h1, h2⟩ := hh i x hi hx
  simp only [Nat.zero_add]
  refine ⟨?_, ?_, ?_⟩
  · rw [h.cell (by omega), h0]
  · rw [h.cell (by omega), h1]
  · rw [h.cell (by omega), h2]

def badK (kind : Int) (y : Val) : Bool := y.k != 0 && y.k != kind
def fromV (kind : Int) (xs : List Val) : Vc × Int :=
  if kindB kind = false then (.zero, 1) else if (xs.map cleanV).any (badK kind) then (.zero, 4) else if (xs.map cleanV).any (fun y => largeB y.s) then (.zero, 3) else (laidV kind (xs.map cleanV), 0)

/-- What 'From' has cleaned in the first k places. -/
def FInv (w0 w : World) (n k : Nat) (ys : List Val) : Prop :=
  Below w0.heap.size w0 w ∧ w.rowIs w0.heap.size 29 4 (box4 (.int .i64 0) noS noS noS) ∧ (∃ F, w.rowIs (w0.heap.size + 1) 38 (n * 3) F ∧ Holds3 F k ys)
theorem FInv.start (w : World) (n : Nat) (ys : List Val) (z : Array Value) :
    FInv w ((w.alloc (.cells #[.int .i64 0, .slice none 0 0, .slice none 0 0, .slice none 0 0] 29)).alloc (.cells (madeCells z (n * 3)) 38)) n 0 ys := by
  refine ⟨by repeat (first | exact Below.refl _ _ | refine Below.alloc ?_ (by simp <;> omega) _), (World.rowIs_alloc w _ 29 _ (box4_arr _ _ _ _)).alloc _, ?_⟩
  obtain ⟨F, hF⟩ := rowIs_any (w.alloc (.cells #[.int .i64 0, .slice none 0 0, .slice none 0 0, .slice none 0 0] 29)) (madeCells z (n * 3)) 38
  rw [size_madeCells] at hF
  exact ⟨F, by simpa using hF, Holds3.zero _ _⟩
theorem FInv.step {w0 w : World} {n k : Nat} {ys : List Val} {y : Val} (h : FInv w0 w n k ys) (hy : ys[k]? = some y) :
    FInv w0 (((w.setCell ⟨w0.heap.size + 1, k * 3, none⟩ (.int .i64 y.k)).setCell ⟨w0.heap.size + 1, k * 3 + 1, none⟩ (.int .i64 y.n)).setCell ⟨w0.heap.size + 1, k * 3 + 2, none⟩ (.string y.s)) n (k + 1) ys := by
  obtain ⟨hb, hr, ⟨F, hF, hF'⟩⟩ := h
  refine ⟨((hb.setCell (by simp <;> omega) _).setCell (by simp <;> omega) _).setCell (by simp <;> omega) _, ?_, ⟨_, ?_, hF'.step hy⟩⟩
  · exact ((hr.setOther (by simp) _).setOther (by simp) _).setOther (by simp) _
  · exact ((hF.set _ _).set _ _).set _ _
theorem FInv.later {w0 w w' : World} {n k : Nat} {ys : List Val} (h : FInv w0 w n k ys) (hb' : Below w.heap.size w w') : FInv w0 w' n k ys := by
  obtain ⟨hb, hr, ⟨F, hF, hF'⟩⟩ := h
  exact ⟨below_step hb hb', hr.of_block (hb'.block _ hr.lt), F, hF.of_block (hb'.block _ hF.lt), hF'⟩
end Go.Proofs.YtmjeiepljlepbacGreat.Vv
set_option linter.unusedSimpArgs false
set_option maxRecDepth 100000
set_option linter.unusedVariables false
namespace Go.Proofs.YtmjeiepljlepbacGreat.Vv
open Go.RowKit Go.Sort

theorem any_hit {p : Val → Bool} {ys : List Val} {k : Nat} {y : Val} (h : ys[k]? = some y) (hp : p y = true) : ys.any p = true :=
  List.any_eq_true.2 ⟨y, List.mem_of_getElem? h, hp⟩
theorem any_none {p : Val → Bool} {ys : List Val} (h : ∀ i y, i < ys.length → ys[i]? = some y → p y = false) : ys.any p = false := by
  rw [List.any_eq_false]
  intro y hy
  obtain ⟨i, hi⟩ := List.mem_iff_getElem?.1 hy
  rw [h i y (List.getElem?_eq_some_iff.1 hi).1 hi]; simp
theorem none_step {p : Val → Bool} {ys : List Val} {k : Nat} {y : Val} (h : ∀ i y, i < k → ys[i]? = some y → p y = false) (hy : ys[k]? = some y) (hp : p y = false) : ∀ i y, i < k + 1 → ys[i]? = some y → p y = false := by
  intro i z hi hz
  by_cases e : i = k
  · subst e; rw [hy] at hz; cases hz; exact hp
  · exact h i z (by omega) hz

theorem three {w : World} {g t n k : Nat} {F : Nat → Value} (h : w.rowIs g t n F) (hk : k * 3 + 2 < n) :
    w.cell? ⟨g, k * 3, none⟩ = some (F (k * 3)) ∧ w.cell? ⟨g, k * 3 + 1, none⟩ = some (F (k * 3 + 1)) ∧ w.cell? ⟨g, k * 3 + 2, none⟩ = some (F (k * 3 + 2)) ∧
    w.frozen? ⟨g, k * 3, none⟩ = false ∧ w.frozen? ⟨g, k * 3 + 1, none⟩ = false ∧ w.frozen? ⟨g, k * 3 + 2, none⟩ = false :=
  ⟨h.cell (by omega), h.cell (by omega), h.cell (by omega), h.frozen _, h.frozen _, h.frozen _⟩
theorem rowIs_later {w w' : World} {g t n : Nat} {F : Nat → Value} (h : w.rowIs g t n F) (hb : Below w.heap.size w w') : w'.rowIs g t n F := h.of_block (hb.block _ h.lt)
theorem below_one {w w' : World} {o : Obj} (h : Below (w.alloc o).heap.size (w.alloc o) w') : Below w.heap.size w w' := below_step (below_alloc (Below.refl _ _) o) h

def zeroVec : Value := .agg #[.int .i64 0, .slice none 0 0, .slice none 0 0, .slice none 0 0]
/-- The end of a call that refuses. -/
theorem refused {w0 w' : World} {X : Vc × Int} {n : Int} (hX : X = (Vc.zero, n)) (hb : Below w0.heap.size w0 w') :
    ∃ p, Ending.returned (.tuple #[zeroVec, .int .i64 n]) = .returned (.tuple #[vecV X.1 p, .int .i64 X.2]) ∧ VecAt w' X.1 p ∧ Fresh w0.heap.size p ∧ Below w0.heap.size w0 w' := by
  subst hX
  exact ⟨⟨none, 0, none, 0, none, 0⟩, rfl, VecAt.zero _, ⟨by simp, by simp, by simp⟩, hb⟩
theorem box_facts {w : World} {g : Nat} {a b c d : Value} (h : w.rowIs g 29 4 (box4 a b c d)) :
    w.cell? ⟨g, 0, none⟩ = some a ∧ w.cell? ⟨g, 1, none⟩ = some b ∧ w.cell? ⟨g, 2, none⟩ = some c ∧ w.cell? ⟨g, 3, none⟩ = some d ∧
    w.frozen? ⟨g, 0, none⟩ = false ∧ w.frozen? ⟨g, 1, none⟩ = false ∧ w.frozen? ⟨g, 2, none⟩ = false ∧ w.frozen? ⟨g, 3, none⟩ = false :=
  ⟨h.cell (by omega), h.cell (by omega), h.cell (by omega), h.cell (by omega), h.frozen _, h.frozen _, h.frozen _, h.frozen _⟩

set_option maxHeartbeats 4000000 in
theorem from_any (a : Option Addr) (c : Nat) (kind : Int) (xs : List Val) (w : World) (hl : xs.length * 32 ≤ 140737488355328) (ha : RowAt w a xs) :
    Calls Tryz.prog 7 #[.int .i64 kind, .slice a xs.length c] w fun e w' => ∃ p, e = .returned (.tuple #[vecV (fromV kind xs).1 p, .int .i64 (fromV kind xs).2]) ∧ VecAt w' (fromV kind xs).1 p ∧ Fresh w.heap.size p ∧ Below w.heap.size w w' := by
  obtain ⟨i4, hi4, z40, z41, z42⟩ := info_parts Tryz.info38
  generalize hX : fromV kind xs = X
  have HX := hide hX
  clear hX
  have HA := hide ha
  clear ha
  obtain ⟨ys, hys⟩ : ∃ ys, ys = xs.map cleanV := ⟨_, rfl⟩
  have HY := hide hys
  have hyl : ys.length = xs.length := by rw [hys]; simp
  have HYL := hide hyl
  clear hys hyl
  rcases Bool.eq_false_or_eq_true (kindB kind) with hk | hk
  rotate_left
  · have HE : Hid (X = (Vc.zero, 1)) := by
      show _ = _
      rw [← unhide HX, fromV, if_pos hk]
    go_enter Tryz.func7, Tryz.ntmps7
    go_wp2_with (go_at_call 46; refine (iskind_any _ _).mono ?_; rintro e w1 ⟨rfl, rfl⟩)
    refine bodyPost_ret (v := .tuple #[zeroVec, .int .i64 1]) (by simp [results, Tryz.results7, go_sem, zeroVec, *]) rfl ?_
    exact refused (unhide HE) (by repeat (first | exact Below.refl _ _ | refine Below.alloc ?_ (by simp <;> omega) _ | refine Below.setCell ?_ (by simp <;> omega) _))
  · go_enter Tryz.func7, Tryz.ntmps7
    go_wp2_with (first
      | (go_at_call 46; refine (iskind_any _ _).mono ?_; rintro e w1 ⟨rfl, rfl⟩)
      | (at_make; refine wpList_make_rows _ rfl (.tmp 18) (.tmp 18) 22 rfl 38 i4 _ Tryz.underlying22 hi4 z40 3 z41 .i64 .i64 xs.length rfl rfl (by rw [z42]; omega) (by omega) ?_)
      | fail)
    go_loopw [22] (fun i wr => ∃ k : Nat, k ≤ xs.length ∧ i = .int .i64 k ∧ FInv w wr xs.length k ys) (fun i _ => xs.length - (intOf i).toNat)
    case atStart => exact ⟨0, Nat.zero_le _, rfl, FInv.start _ _ _ _⟩
    case round =>
      obtain ⟨k, hkl, rfl, hI⟩ := hrel
      have HI := hide hI
      obtain ⟨hb, hr, ⟨F, hF, hF'⟩⟩ := hI
      have ha' := (unhide HA).later hb
      have hz := hF.lt
      by_cases h1 : k < xs.length
      · obtain ⟨x, hx'⟩ : ∃ x, xs[k]? = some x := ⟨_, List.getElem?_eq_getElem h1⟩
        rcases ha' with e | ⟨ba, oa, rfl, hca⟩
        · subst e; simp at h1
        obtain ⟨c0, c1, c2⟩ := hca k x hx'
        have HS : Hid (ys[k]? = some (cleanV x)) := by show _ = _; rw [unhide HY]; simp [hx']
        have i1 : (k : Int) < (xs.length : Int) := by omega
        have HF := hide hF
        clear hca hx' hF hF' hr hb
        go_wp2_with (go_at_call 47; refine (clean_any x _).mono ?_; rintro e w1 ⟨rfl, hb1⟩; rw [Val.open_]; have hw1 := below_one hb1; clear hb1; obtain ⟨p0, p1, p2, q0, q1, q2⟩ := three (k := k) (rowIs_later (unhide HF) hw1) (by omega))
        go_roundw
        case rel => exact ⟨k + 1, by omega, by go_num, ((unhide HI).later hw1).step (unhide HS)⟩
        case measure => simp [intOf]; omega
      · have e : k = xs.length := by omega
        have i1 : ¬ (k : Int) < (xs.length : Int) := by omega
        have HI2 : Hid (FInv w wr xs.length xs.length ys) := by have := unhide HI; rw [e] at this; exact this
        clear hr hF hF' hb ha' HI e
        go_wp2
        obtain ⟨W1, rfl⟩ : ∃ W1, W1 = wr := ⟨_, rfl⟩
        clear hkl h1 F hz i1
        go_loopw [35] (fun i wr => ∃ j : Nat, j ≤ xs.length ∧ i = .int .i64 j ∧ Hid (∀ i y, i < j → ys[i]? = some y → badK kind y = false) ∧ Below W1.heap.size W1 wr) (fun i _ => xs.length - (intOf i).toNat)
        case atStart => exact ⟨0, Nat.zero_le _, rfl, fun i y h => by omega, Below.refl _ _⟩
        case round =>
          obtain ⟨j, hjl, rfl, HN, hb⟩ := hrel
          have hI := (unhide HI2).later hb
          have HI := hide hI
          obtain ⟨hb0, hr, ⟨F, hF, hF'⟩⟩ := hI
          obtain ⟨r0, r1, r2, r3, f0, f1, f2, f3⟩ := box_facts hr
          by_cases h1 : j < xs.length
          · obtain ⟨y, hy⟩ : ∃ y, ys[j]? = some y := ⟨_, List.getElem?_eq_getElem (by rw [unhide HYL]; exact h1)⟩
            have ha' := row_of_row hF (unhide HYL) hF'
            rcases ha' with e | ⟨ba, oa, e, hca⟩
            · rw [e] at hy; cases hy
            cases e
            obtain ⟨c0, c1, c2⟩ := hca j y hy
            rw [Nat.zero_add] at c0 c1 c2
            have i1 : (j : Int) < (xs.length : Int) := by omega
            have n1 : w.heap.size < wr.heap.size := hr.lt
            have HS := hide hy
            have HB0 := hide hb0
            clear hca hy hF hF' hr hb0
            rcases Bool.eq_false_or_eq_true (y.k != 0) with e1 | e1
            · rcases Bool.eq_false_or_eq_true (y.k != kind) with e2 | e2
              · have HE : Hid (X = (Vc.zero, 4)) := by
                  show _ = _
                  rw [← unhide HX, fromV, if_neg (by rw [hk]; simp), ← unhide HY, if_pos (any_hit (unhide HS) (by rw [badK, e1, e2]; rfl))]
                go_wp2
                refine bodyPost_ret (v := .tuple #[zeroVec, .int .i64 4]) (by simp [results, Tryz.results7, go_sem, zeroVec, *]) rfl ?_
                exact refused (unhide HE) (below_alloc (below_set4 (unhide HB0) (Nat.le_refl _) _ _ _ _) _)
              · have HP := hide (none_step (unhide HN) (unhide HS) (by rw [badK, e1, e2]; rfl))
                go_wp2
                go_roundw
                case rel => exact ⟨j + 1, by omega, by go_num, HP, below_alloc hb _⟩
                case measure => simp [intOf]; omega
            · have HP := hide (none_step (unhide HN) (unhide HS) (by rw [badK, e1]; rfl))
              go_wp2
              go_roundw
              case rel => exact ⟨j + 1, by omega, by go_num, HP, below_alloc hb _⟩
              case measure => simp [intOf]; omega
          · have e : j = xs.length := by omega
            have i1 : ¬ (j : Int) < (xs.length : Int) := by omega
            have HP : Hid (ys.any (badK kind) = false) := any_none (by rw [unhide HYL, ← e]; exact unhide HN)
            clear e
            go_wp2
            obtain ⟨W2, rfl⟩ : ∃ W2, W2 = wr := ⟨_, rfl⟩
            clear hjl h1 F hF hF' i1 hr hb0 r0 r1 r2 r3 f0 f1 f2 f3 HN HI2 hb
            go_loopw [52] (fun i wr => ∃ j : Nat, j ≤ xs.length ∧ i = .int .i64 j ∧ Hid (∀ i y, i < j → ys[i]? = some y → largeB y.s = false) ∧ Below W2.heap.size W2 wr) (fun i _ => xs.length - (intOf i).toNat)
            case atStart => exact ⟨0, Nat.zero_le _, rfl, fun i y h => by omega, Below.refl _ _⟩
            case round =>
              obtain ⟨j, hjl, rfl, HN, hb⟩ := hrel
              have hI := (unhide HI).later hb
              obtain ⟨hb0, hr, ⟨F, hF, hF'⟩⟩ := hI
              obtain ⟨r0, r1, r2, r3, f0, f1, f2, f3⟩ := box_facts hr
              by_cases h1 : j < xs.length
              · obtain ⟨y, hy⟩ : ∃ y, ys[j]? = some y := ⟨_, List.getElem?_eq_getElem (by rw [unhide HYL]; exact h1)⟩
                have ha' := row_of_row hF (unhide HYL) hF'
                rcases ha' with e | ⟨ba, oa, e, hca⟩
                · rw [e] at hy; cases hy
                cases e
                obtain ⟨c0, c1, c2⟩ := hca j y hy
                rw [Nat.zero_add] at c0 c1 c2
                have i1 : (j : Int) < (xs.length : Int) := by omega
                have n1 : w.heap.size < wr.heap.size := hr.lt
                have HS := hide hy
                have HB0 := hide hb0
                clear hca hy hF hF' hr hb0
                rcases Bool.eq_false_or_eq_true (largeB y.s) with e1 | e1
                · have HE : Hid (X = (Vc.zero, 3)) := by
                    show _ = _
                    rw [← unhide HX, fromV, if_neg (by rw [hk]; simp), ← unhide HY, if_neg (by rw [unhide HP]; simp), if_pos (any_hit (p := fun y => largeB y.s) (unhide HS) e1)]
                  go_wp2_with (go_at_call 48; refine (islarge_any _ _).mono ?_; rintro e w1 ⟨rfl, rfl⟩)
                  refine bodyPost_ret (v := .tuple #[zeroVec, .int .i64 3]) (by simp [results, Tryz.results7, go_sem, zeroVec, *]) rfl ?_
                  exact refused (unhide HE) (below_alloc (below_set4 (unhide HB0) (Nat.le_refl _) _ _ _ _) _)
                · have HQ := hide (none_step (p := fun y => largeB y.s) (unhide HN) (unhide HS) e1)
                  go_wp2_with (go_at_call 48; refine (islarge_any _ _).mono ?_; rintro e w1 ⟨rfl, rfl⟩)
                  go_roundw
                  case rel => exact ⟨j + 1, by omega, by go_num, HQ, below_alloc hb _⟩
                  case measure => simp [intOf]; omega
              · have e : j = xs.length := by omega
                have i1 : ¬ (j : Int) < (xs.length : Int) := by omega
                have HE : Hid (X = (laidV kind ys, 0)) := by
                  show _ = _
                  have hq : ys.any (fun y => largeB y.s) = false := any_none (by rw [unhide HYL, ← e]; exact unhide HN)
                  rw [← unhide HX, fromV, if_neg (by rw [hk]; simp), ← unhide HY, if_neg (by rw [unhide HP]; simp), if_neg (by rw [hq]; simp)]
                have HC : Hid (Calls Tryz.prog 49 #[.int .i64 kind, .slice (some ⟨w.heap.size + 1, 0, none⟩) xs.length xs.length] wr fun e w' => ∃ p, e = .returned (vecV (laidV kind ys) p) ∧ VecAt w' (laidV kind ys) p ∧ Fresh wr.heap.size p ∧ Below wr.heap.size wr w') := by
                  have := laid_any (some ⟨w.heap.size + 1, 0, none⟩) xs.length kind ys wr (by rw [unhide HYL]; exact hl) (row_of_row hF (unhide HYL) hF')
                  rw [unhide HYL] at this
                  exact this
                have HB0 := hide hb0
                have HR := hide hr
                have n1 : w.heap.size < wr.heap.size := hr.lt
                clear hF hF' hr hb0 e r0 r1 r2 r3 f0 f1 f2 f3
                go_wp2_with (go_at_call 49; refine (unhide HC).mono ?_; rintro e w1 ⟨p, rfl, hv1, hp1, hb1⟩; rw [vecV_open]; obtain ⟨r0, r1, r2, r3, f0, f1, f2, f3⟩ := box_facts (rowIs_later (unhide HR) hb1))
                refine bodyPost_ret (v := .tuple #[vecV (laidV kind ys) p, .int .i64 0]) (by simp [results, Tryz.results7, go_sem, vecV, *]) rfl ?_
                rw [unhide HE]
                exact ⟨p, rfl, hv1.setO4 hp1 n1 _ _ _ _, hp1.less (by omega), below_set4 (below_step (unhide HB0) hb1) (Nat.le_refl _) _ _ _ _⟩
end Go.Proofs.YtmjeiepljlepbacGreat.Vv

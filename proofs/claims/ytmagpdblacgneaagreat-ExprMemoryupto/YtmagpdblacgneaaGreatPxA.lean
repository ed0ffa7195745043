import Derived.Test.YtmagpdblacgneaaGreatRmG
import Derived.Test.YtmagpdblacgneaaGreatRmH
import Derived.Test.YtmagpdblacgneaaGreatRmI
import Derived.Test.YtmagpdblacgneaaGreatFoH
import Derived.Test.YtmagpdblacgneaaGreatSpF
import Derived.Test.YtmagpdblacgneaaGreatPuC
import Derived.Lib.SlicesCompact
import Derived.Shelf.Sort.Plain
import Derived.Shelf.Slices.In.SortNone
import Derived.Shelf.Slices.CompactI
import Derived.Ground.NamesProg
import Derived.Ground.Names2Prog
import Derived.Test.YtmagpdblacgneaaGreatProg
set_option linter.unusedSimpArgs false
set_option linter.unusedVariables false
set_option maxRecDepth 100000
namespace Go.Proofs.YtmagpdblacgneaaGreat
open Go.RowKit Go.Sort

/-! How large what is made is. -/
mutual
theorem measA_size : ∀ (e : Ex) (N H : Int), (e.size : Int) ≤ N → (e.high : Int) ≤ H → measE allE e N H = ((e.size : Int), (e.high : Int), true)
  | .mk op n v l, N, H, h1, h2 => by
    rw [Ex.size] at h1
    rw [Ex.high] at h2
    have hs : allE (.mk op n v l) = true := rfl
    rw [measE, hs, if_neg (by simp only [Bool.or_eq_true, decide_eq_true_eq, Bool.not_true, not_or]; exact ⟨⟨by omega, by omega⟩, by simp⟩)]
    rw [measAL_size l N H 1 0 (by omega) (by omega) (by omega) (by omega)]
    simp only [Prod.mk.injEq, and_true]
    rw [Ex.size, Ex.high]
    constructor
    · omega
    · omega
theorem measAL_size : ∀ (l : List Ex) (N H c h : Int), 0 ≤ c → 0 ≤ h → c + (Ex.sizes l : Int) ≤ N → (Ex.highs l : Int) ≤ H - 1 → measL allE l N H c h = some (c + (Ex.sizes l : Int), max h (Ex.highs l : Int))
  | [], N, H, c, h, _, hh, _, _ => by
    rw [measL, Ex.sizes, Ex.highs]
    simp only [Option.some.injEq, Prod.mk.injEq]
    constructor <;> omega
  | e :: l, N, H, c, h, hc, hh, h1, h2 => by
    rw [Ex.sizes] at h1
    rw [Ex.highs] at h2
    rw [measL, measA_size e (N - c) (H - 1) (by omega) (by omega)]
    simp only [if_true]
    rw [measAL_size l N H _ _ (by omega) (by omega) (by omega) (by omega), Ex.sizes, Ex.highs]
    simp only [Option.some.injEq, Prod.mk.injEq]
    constructor <;> omega
end
mutual
theorem high_le : ∀ (e : Ex), e.high ≤ e.size
  | .mk op n v l => by have := highs_le l; rw [Ex.high, Ex.size]; omega
theorem highs_le : ∀ (l : List Ex), Ex.highs l ≤ Ex.sizes l
  | [] => Nat.le_refl _
  | e :: l => by have := high_le e; have := highs_le l; rw [Ex.highs, Ex.sizes]; omega
end
theorem meas_ok {e : Ex} (h : e.size ≤ 131072) : (measE allE e 33554432 131072).2.2 = true := by
  rw [measA_size e 33554432 131072 (by omega) (by have := high_le e; omega)]
mutual
theorem short_ok : ∀ (e : Ex), e.size ≤ 1000000000 → e.short
  | .mk op n v l, h => by
    rw [Ex.size] at h
    rw [Ex.short]
    exact ⟨by have := sizes_len l; omega, shorts_ok l (by omega)⟩
theorem shorts_ok : ∀ (l : List Ex), Ex.sizes l ≤ 1000000000 → Ex.shorts l
  | [], _ => by rw [Ex.shorts]; trivial
  | e :: l, h => by
    rw [Ex.sizes] at h
    rw [Ex.shorts]
    exact ⟨short_ok e (by omega), shorts_ok l (by omega)⟩
end
mutual
theorem copy_size : ∀ (e : Ex), (copyE e).size = e.size
  | .mk op n v l => by rw [copyE, Ex.size, Ex.size, copyL_size l]
theorem copyL_size : ∀ (l : List Ex), Ex.sizes (copyL l) = Ex.sizes l
  | [] => by rw [copyL]
  | e :: l => by rw [copyL, Ex.sizes, Ex.sizes, copy_size e, copyL_size l]
end
theorem copyT_size (e : Ex) : (copyT e).size = e.size := by
  unfold copyT
  split
  · exact copy_size e
  · rfl
theorem foldB_le (e : Ex) : (foldB e).size ≤ e.size := by
  unfold foldB
  split
  · rename_i h
    exact (fold_size e (built_good h)).1
  · exact Nat.le_of_eq (copyT_size e)
theorem sizes_app : ∀ (l m : List Ex), Ex.sizes (l ++ m) = Ex.sizes l + Ex.sizes m
  | [], m => by rw [List.nil_append, Ex.sizes]; omega
  | e :: l, m => by rw [List.cons_append, Ex.sizes, Ex.sizes, sizes_app l m]; omega
mutual
theorem partsS_le : ∀ (e : Ex), Ex.sizes (partsE e) ≤ e.size
  | .mk op n v l => by
    rw [partsE]
    split
    · have := partsSL_le l; rw [Ex.size]; omega
    · rw [Ex.sizes, Ex.sizes, copyT_size]; omega
theorem partsSL_le : ∀ (l : List Ex), Ex.sizes (partsL l) ≤ Ex.sizes l
  | [] => by rw [partsL]; exact Nat.le_refl _
  | e :: l => by have := partsS_le e; have := partsSL_le l; rw [partsL, sizes_app, Ex.sizes]; omega
end
theorem movG_args (tt : List Int) (e : Ex) : (movG tt e).args = e.args := by unfold movG; split <;> rfl
mutual
theorem mov_size (tt : List Int) : ∀ (e : Ex), (madeE (movG tt) e).size = e.size
  | .mk op n v l => by
    rw [madeE, Ex.size_mk, movG_args, Ex.size]
    show Ex.sizes (madeL (movG tt) l) + 1 = _
    rw [movL_size tt l]
theorem movL_size (tt : List Int) : ∀ (l : List Ex), Ex.sizes (madeL (movG tt) l) = Ex.sizes l
  | [] => by rw [madeL]
  | e :: l => by rw [madeL, Ex.sizes, Ex.sizes, mov_size tt e, movL_size tt l]
end
theorem size_pos (e : Ex) : 1 ≤ e.size := by rw [Ex.size_mk]; omega
theorem and_size (x y : Ex) : (andE x y).size = x.size + y.size + 1 := by
  rw [Ex.size_mk]
  show Ex.sizes [x, y] + 1 = _
  rw [Ex.sizes, Ex.sizes, Ex.sizes]
  omega
theorem allF_size : ∀ (l : List Ex) (acc : Ex), (l.foldl (fun acc y => andE acc (copyE y)) acc).size ≤ acc.size + 2 * Ex.sizes l
  | [], acc => Nat.le_add_right _ _
  | e :: l, acc => by
    have h := allF_size l (andE acc (copyE e))
    have h2 := size_pos e
    rw [List.foldl_cons, Ex.sizes]
    rw [and_size, copy_size] at h
    omega
theorem allX_le (l : List Ex) : (allX l).size ≤ 2 * Ex.sizes l + 1 := by
  cases l with
  | nil => exact Nat.le_of_eq (by rw [allX, Ex.size]; rfl)
  | cons e l =>
    have h := allF_size l (copyE e)
    rw [copy_size] at h
    rw [allX, Ex.sizes]
    omega
/-- All that is made of e, by, whatever Put and Moved answer. -/
def flE (e : Ex) (by_ : List Ex) (p m : Ex) : List Ex := [foldB e, allX by_] ++ [p, m] ++ partsE e
theorem flE_size {e p m : Ex} {by_ : List Ex} (he : e.size ≤ 131072) (hb : Ex.sizes by_ ≤ 131072) (hp : p.size ≤ 400) (hm : m.size ≤ 400) : Ex.sizes (flE e by_ p m) ≤ 2097152 := by
  unfold flE
  rw [sizes_app, sizes_app]
  have h1 := foldB_le e
  have h2 := allX_le by_
  have h3 := partsS_le e
  simp only [Ex.sizes]
  omega
/-- What Put and Moved answer: an expression that is not large, in memory of its own. -/
def OneK (w : World) (r : Ending) (w' : World) : Prop := ∃ (p : Ex) (a : Option Addr) (c : Nat) (er : Int), r = .returned (.tuple #[p.val a c, .int .i64 er]) ∧ ExK w.heap.size w' a c p.args ∧ p.size ≤ 400 ∧ Below w.heap.size w w'
theorem zeroE_size : zeroE.size = 1 := by rw [Ex.size_mk]; rfl
theorem put_one (by_ : List Ex) (hbf : Ex.fins by_) (hbl : by_.length ≤ 140737488355328) (aB : Option Addr) (cB : Nat) (e : Ex) (hf : e.fin) (a : Option Addr) (c : Nat) (w : World) (ha : Ex.all w a e.args) (hA : Ex.all w aB by_) :
    Calls Tryz.prog 8 #[e.val a c, .slice aB by_.length cB] w (OneK w) :=
  (put_err by_ hbf hbl aB cB e hf a c w ha hA).mono fun r w' h => by
    rcases h with ⟨_, _, _, h4, a2, c2, h5, h6, h7⟩ | ⟨_, h2, h3⟩
    · exact ⟨_, a2, c2, 0, h5, h6, (built_bounds h4).1, h7⟩
    · exact ⟨zeroE, none, 0, _, h2, ExK.nil _ _, by rw [zeroE_size]; omega, h3⟩
theorem okM_built {tt : List Int} {e : Ex} (h : okM tt e = true) : builtE e = true := by
  unfold okM at h
  simp only [Bool.and_eq_true] at h
  exact h.1.1
theorem mov_one {tt : List Int} {e : Ex} {w : World} {r : Ending} {w' : World} (h : MovPost tt e w r w') : OneK w r w' := by
  rcases h with ⟨h1, a2, c2, h5, h6, h7⟩ | ⟨_, h2, h3⟩
  · exact ⟨_, a2, c2, 0, h5, h6, by rw [mov_size]; exact (built_bounds (okM_built h1)).1, h7⟩
  · exact ⟨zeroE, none, 0, _, h2, ExK.nil _ _, by rw [zeroE_size]; omega, h3⟩
end Go.Proofs.YtmagpdblacgneaaGreat
set_option linter.unusedSimpArgs false
set_option linter.unusedVariables false
set_option maxRecDepth 100000
namespace Go.Proofs.YtmagpdblacgneaaGreat
open Go.RowKit Go.Sort

theorem ints_news {w : World} {ad : Addr} {L : List Int} (h : IntsAt w (some ad) L) : ∀ j u, (L.map (Value.int .i64))[j]? = some u → w.cell? (ad.add j) = some u := by
  intro j u hu
  rcases h with rfl | ⟨b, off, e, h⟩
  · simp at hu
  · injection e with e
    subst e
    rw [List.getElem?_map] at hu
    cases hx : L[j]? with
    | none => rw [hx] at hu; cases hu
    | some x =>
      rw [hx] at hu
      injection hu with hu
      subst hu
      have hc := h j x hx
      have ea : (⟨b, off, none⟩ : Addr).add j = ⟨b, off + j, none⟩ := by
        by_cases h : j = 0 <;> simp [Addr.add, h]
      rw [ea]
      exact hc
theorem op_append_ints {o : Oper} {a : Act} {w : World} {K : Act → World → Prop} {Q : Exit → Act → World → Prop} (s x : Operand) (ho : o.op = .call { callee := .builtin .append, args := #[s, x], argTypes := #[27, 27] })
    (base : Nat) (v : Value) (L1 L2 : List Int) (hs : a.eval s = v) (hown : OwnI w base v L1) (ad : Option Addr) (m c2 : Nat) (hx : a.eval x = .slice ad m c2) (hm : m = L2.length) (hsrc : IntsAt w ad L2) (hn : ad = none → c2 = 0)
    (hl : L1.length + L2.length ≤ 1000000) (hbase : base ≤ w.heap.size)
    (h : ∀ v' w', OwnI w' base v' (L1 ++ L2) → w.grownBy w' v.ownBlock → (v'.ownBlock = v.ownBlock ∨ v'.ownBlock = some w.heap.size) → K (a.put o.dst v') w') : o.wp Tryz.prog a w K Q := by
  obtain ⟨i4, hi4, z40, z41, z42⟩ := info_parts info3
  subst hm
  cases ad with
  | none =>
    have hL : L2 = [] := by
      rcases hsrc with h | ⟨b, off, h, _⟩
      · exact h
      · cases h
    subst hL
    rw [hn rfl] at hx
    have hrun := run_append_owned_none (P := Tryz.prog) (w := w) base 27 o.type 3 i4 1 Tryz.underlying27 hi4 v L1.length _ hown
    unfold Oper.wp
    simp [execOp, ho, resolve, invoke, builtin, hs, hx, hrun, Result.andThen]
    exact h v w (by rw [List.append_nil]; exact hown) ⟨rfl, rfl, rfl, Nat.le_refl _, fun _ _ _ => rfl⟩ (.inl rfl)
  | some ad =>
    obtain ⟨v', w', hr, h2, h3, h4, h5⟩ := run_append_own_at (P := Tryz.prog) w base 27 o.type 3 i4 (.int .i64 0) 1 8 Tryz.underlying27 hi4 z40 z41 z42 rfl (by decide) v L1.length (L1.map (.int .i64)) hown ad L2.length c2 (L2.map (.int .i64)) (by simp) (ints_news hsrc) (ints_one L2) (by unfold maxLen; omega) (by omega) hbase
    unfold Oper.wp execOp
    simp only [ho, resolve, invoke, builtin, Sem.run_bind, Sem.run_pure, Result.andThen_ok, List.map_toArray, List.map_cons, List.map_nil, hs, hx, hr]
    refine h v' w' ?_ h3 h5
    unfold OwnI
    rw [List.length_append, List.map_append]
    exact h2
theorem addr_zero (a : Addr) : a.add 0 = a := by simp [Addr.add]
theorem slice_hi (a : Option Addr) (n k c : Nat) (W : World) (hk : k ≤ c) : (Instr.slice 27 (.slice a n c) none (some (.int .i64 (k : Int))) none).run Tryz.prog W = .ok (.slice a k c) W := by
  obtain ⟨i, hi, _, hz, _⟩ := info_parts info3
  have hk2 : (k : Int) ≤ (c : Int) := by omega
  have ea : a.map (fun x : Addr => x.add 0) = a := by cases a with | none => rfl | some a => simp [addr_zero]
  simp [Instr.slice, run_underlying Tryz.underlying27, Instr.sliceBounds, Instr.sliceBound, asIntOf, sizeOf, typeInfo, hi, hz, hk2, ea]
  intro h
  omega
theorem slice_lo (a : Option Addr) (n k c : Nat) (W : World) (hk : k ≤ n) : (Instr.slice 27 (.slice a n c) (some (.int .i64 (k : Int))) none none).run Tryz.prog W = .ok (.slice (if c = k then a else a.map (·.add k)) (n - k) (c - k)) W := by
  obtain ⟨i, hi, _, hz, _⟩ := info_parts info3
  have hk2 : (k : Int) ≤ (n : Int) := by omega
  simp [Instr.slice, run_underlying Tryz.underlying27, Instr.sliceBounds, Instr.sliceBound, asIntOf, sizeOf, typeInfo, hi, hz, hk2]
  intro h
  omega
theorem OwnI.take {w : World} {base k cap : Nat} {a : Option Addr} {L : List Int} (h : OwnI w base (.slice a L.length cap) L) (hk : k ≤ L.length) : OwnI w base (.slice a k cap) (L.take k) := by
  have hlen : (L.take k).length = k := by rw [List.length_take]; omega
  unfold OwnI
  rw [hlen]
  rcases h.2 with ⟨e, h0⟩ | ⟨g, cap', cur, e, q1, q2, q3, q4, q5, q6⟩
  · injection e with e1 e2 e3
    subst e1 e3
    obtain rfl : k = 0 := by omega
    exact ⟨by simp, .inl ⟨rfl, rfl⟩⟩
  · injection e with e1 e2 e3
    subst e1 e3
    refine ⟨by rw [List.length_map, hlen]; omega, .inr ⟨g, cap, cur, rfl, q1, q2, by omega, q4, q5, ?_⟩⟩
    rw [List.map_take, ← q6, List.take_take]
    congr 1
    omega
theorem OwnI.cap_le {w : World} {base cap : Nat} {a : Option Addr} {L : List Int} (h : OwnI w base (.slice a L.length cap) L) : L.length ≤ cap := by
  rcases h.2 with ⟨e, h0⟩ | ⟨g, cap', cur, e, q1, q2, q3, _⟩
  · injection e with e1 e2 e3; omega
  · injection e with e1 e2 e3; omega
theorem OwnI.tail {w : World} {base k cap : Nat} {a : Option Addr} {L : List Int} (h : OwnI w base (.slice a L.length cap) L) (hk : k ≤ L.length) : IntsAt w (if cap = k then a else a.map (·.add k)) (L.drop k) := by
  have hcl := h.cap_le
  by_cases hc : cap = k
  · exact .inl (List.drop_eq_nil_of_le (by omega))
  · rw [if_neg hc]
    rcases h.ints with rfl | ⟨b, off, rfl, hx⟩
    · exact .inl (by simp)
    · refine .inr ⟨b, off + k, ?_, fun i x hi => ?_⟩
      · by_cases h0 : k = 0 <;> simp [Addr.add, h0]
      · rw [List.getElem?_drop] at hi
        have := hx _ _ hi
        rw [show off + k + i = off + (k + i) by omega]
        exact this
theorem OwnI.nil_cap {w : World} {base n cap : Nat} {a : Option Addr} {L : List Int} (h : OwnI w base (.slice a n cap) L) : a = none → cap = 0 := by
  intro ha
  rcases h.2 with ⟨e, h0⟩ | ⟨g, cap', cur, e, _⟩
  · injection e
  · injection e with e1; rw [ha] at e1; cases e1
/-- The numbers of S, rising, each once. -/
def Sd (L S : List Int) : Prop := L.Pairwise (· < ·) ∧ (∀ x, x ∈ L ↔ x ∈ S) ∧ L.length ≤ S.length
theorem Sd.nil : Sd [] [] := ⟨.nil, fun _ => Iff.rfl, Nat.le_refl _⟩
theorem Sd.skip {L S : List Int} {n : Int} {k : Nat} (h : Sd L S) (hk : L[k]? = some n) : Sd L (S ++ [n]) :=
  ⟨h.1, fun x => by
    rw [List.mem_append, List.mem_singleton, ← h.2.1 x]
    exact ⟨.inl, fun hx => hx.elim id fun e => by rw [e]; exact List.mem_of_getElem? hk⟩, by rw [List.length_append]; have := h.2.2; omega⟩
theorem Sd.ins {L S : List Int} {n : Int} {k : Nat} (h : Sd L S) (h1 : ∀ j y, j < k → L[j]? = some y → y < n) (h2 : ∀ y, L[k]? = some y → n < y) (hk : k ≤ L.length) : Sd (L.take k ++ (n :: L.drop k)) (S ++ [n]) := by
  obtain ⟨hp, hm, hl⟩ := h
  have hlow : ∀ y ∈ L.take k, y < n := fun y hy => by
    obtain ⟨j, hj⟩ := List.mem_iff_getElem?.1 hy
    rw [List.getElem?_take] at hj
    split at hj
    · exact h1 j y (by omega) hj
    · cases hj
  have hpd : (L.take k ++ L.drop k).Pairwise (· < ·) := by rw [List.take_append_drop]; exact hp
  rw [List.pairwise_append] at hpd
  obtain ⟨hp1, hp2, hp3⟩ := hpd
  have hhigh : ∀ y ∈ L.drop k, n < y := fun y hy => by
    cases hd : L.drop k with
    | nil => rw [hd] at hy; cases hy
    | cons z r =>
      have hz : L[k]? = some z := by
        have : (L.drop k)[0]? = some z := by rw [hd]; rfl
        rw [List.getElem?_drop] at this
        simpa using this
      have hnz := h2 z hz
      rw [hd] at hy hp2
      rcases List.mem_cons.1 hy with rfl | hy
      · exact hnz
      · have := (List.pairwise_cons.1 hp2).1 y hy
        omega
  refine ⟨?_, fun x => ?_, ?_⟩
  · rw [List.pairwise_append]
    refine ⟨hp1, List.pairwise_cons.2 ⟨hhigh, hp2⟩, fun a ha b hb => ?_⟩
    rcases List.mem_cons.1 hb with rfl | hb
    · exact hlow a ha
    · have := hlow a ha
      have := hhigh b hb
      omega
  · rw [List.mem_append, List.mem_cons, List.mem_append, List.mem_singleton, ← hm x]
    constructor
    · rintro (h | h | h)
      · exact .inl (List.mem_of_mem_take h)
      · exact .inr h
      · exact .inl (List.mem_of_mem_drop h)
    · rintro (h | h)
      · rw [← List.take_append_drop k L, List.mem_append] at h
        rcases h with h | h
        · exact .inl h
        · exact .inr (.inr h)
      · exact .inr (.inl h)
  · rw [List.length_append, List.length_cons, List.length_append, List.length_take, List.length_drop]
    simp
    omega
/-- The last of them is the greatest. -/
theorem Sd.last {L S : List Int} {m : Int} {n : Int} (h : Sd L S) (hl : L[L.length - 1]? = some m) : (S.all fun c => decide (c < n)) = decide (m < n) := by
  have hmem : m ∈ S := (h.2.1 m).1 (List.mem_of_getElem? hl)
  by_cases hm : m < n
  · rw [show decide (m < n) = true by simpa using hm, List.all_eq_true]
    intro c hc
    have hcl : c ∈ L := (h.2.1 c).2 hc
    obtain ⟨i, hi⟩ := List.mem_iff_getElem?.1 hcl
    have hil := (List.getElem?_eq_some_iff.1 hi).1
    have : c ≤ m := by
      by_cases e : i = L.length - 1
      · rw [e, hl] at hi; injection hi with hi; omega
      · have := List.pairwise_iff_getElem.1 h.1 i (L.length - 1) hil (by omega) (by omega)
        have e1 := (List.getElem?_eq_some_iff.1 hi).2
        have e2 := (List.getElem?_eq_some_iff.1 hl).2
        omega
    simp
    omega
  · rw [show decide (m < n) = false by simpa using hm]
    by_cases ha : (S.all fun c => decide (c < n)) = true
    · rw [List.all_eq_true] at ha
      have := ha m hmem
      simp at this
      omega
    · simpa using ha
theorem take_sizes {l : List Ex} {k : Nat} {x : Ex} (h : l[k]? = some x) : (colsL (l.take k)).length + x.size ≤ Ex.sizes l := by
  induction l generalizing k with
  | nil => simp at h
  | cons y l ih =>
    cases k with
    | zero =>
      simp at h
      subst h
      rw [List.take_zero, colsL, Ex.sizes]
      simp
    | succ k =>
      have := ih (by simpa using h : l[k]? = some x)
      have := cols_size y
      rw [List.take_succ_cons, colsL, List.length_append, Ex.sizes]
      omega
def F48 (o : Nat) : Value := .func (.func 77) #[] #[.pointer (some ⟨o, 0, none⟩), .pointer (some ⟨o + 1, 0, none⟩)]
/-- While the columns are gathered: the box of the list, the box of the walk, the list. -/
structure CF (o : Nat) (w0 : World) (S : List Int) (v : Value) (L : List Int) (w : World) : Prop where
  c0 : w.cell? ⟨o, 0, none⟩ = some v
  f0 : w.frozen? ⟨o, 0, none⟩ = false
  c1 : w.cell? ⟨o + 1, 0, none⟩ = some (F48 o)
  own : OwnI w (o + 2) v L
  sd : Sd L S
  bel : Below w0.heap.size w0 w
  lo : w0.heap.size ≤ o
  sz : o + 2 ≤ w.heap.size
theorem CF.later {o : Nat} {w0 : World} {S : List Int} {v : Value} {L : List Int} {w w' : World} (h : CF o w0 S v L w) (hb : Below w.heap.size w w') : CF o w0 S v L w' :=
  ⟨clater h.c0 hb, by rw [hb.frozen (p := ⟨o, 0, none⟩) (World.block_lt_of_cell? _ _ h.c0)]; exact h.f0, clater h.c1 hb, h.own.later hb, h.sd, below_step h.bel hb, h.lo, by have := h.sz; have := hb.size; omega⟩
theorem CF.put {o : Nat} {w0 : World} {S S5 : List Int} {v v5 : Value} {L L5 : List Int} {w w5 : World} (h : CF o w0 S v L w) (hb : Below (o + 2) w w5) (hO : OwnI w5 (o + 2) v5 L5) (hS : Sd L5 S5) : CF o w0 S5 v5 L5 (w5.setCell ⟨o, 0, none⟩ v5) := by
  have c0 : w5.cell? ⟨o, 0, none⟩ = some v := by rw [hb.cell (p := ⟨o, 0, none⟩) (by show o < o + 2; omega)]; exact h.c0
  refine ⟨cell_set_at c0, ?_, ?_, ?_, hS, ?_, h.lo, ?_⟩
  · rw [frozen_set, hb.frozen (p := ⟨o, 0, none⟩) (by show o < o + 2; omega)]; exact h.f0
  · rw [cell_set_ne _ _ _ _ _ _ (by simp), hb.cell (p := ⟨o + 1, 0, none⟩) (by show o + 1 < o + 2; omega)]; exact h.c1
  · obtain ⟨h1, h2⟩ := hO
    refine ⟨h1, ?_⟩
    rcases h2 with h2 | ⟨g, cap, cur, q1, q2, q3, q4⟩
    · exact .inl h2
    · refine .inr ⟨g, cap, cur, q1, q2, ?_, q4⟩
      rw [Below.heap_setCell _ _ _ _ (show g ≠ o by omega)]
      exact q3
  · exact (h.bel.trans (hb.mono (by have := h.lo; omega))).setCell (by show w0.heap.size ≤ o; exact h.lo) _
  · have := h.sz
    have := hb.size
    simp only [World.setCell]
    simp
    omega
end Go.Proofs.YtmagpdblacgneaaGreat
set_option linter.unusedSimpArgs false
set_option linter.unusedVariables false
set_option maxRecDepth 100000
namespace Go.Proofs.YtmagpdblacgneaaGreat
open Go.RowKit Go.Sort

/-- What Compact leaves of numbers that rise rises, and is the same numbers. -/
theorem comp_upto (d : Array Int) (h : ∀ i j, i ≤ j → j < d.size → d[i]! ≤ d[j]!) : ∀ m, m ≤ d.size → (Lib.compactUpTo d m).Pairwise (· < ·) ∧ ∀ x, x ∈ Lib.compactUpTo d m ↔ ∃ i, i < m ∧ d[i]! = x
  | 0, _ => ⟨by show List.Pairwise _ []; exact .nil, fun x => ⟨fun hx => (by cases hx), fun ⟨i, hi, _⟩ => absurd hi (by omega)⟩⟩
  | m + 1, hm => by
    obtain ⟨h1, h2⟩ := comp_upto d h m (by omega)
    rw [Lib.compactUpTo_succ]
    cases hk : Lib.keeps d m with
    | true =>
      rw [if_pos rfl]
      have hne : m = 0 ∨ d[m]! ≠ d[m - 1]! := by simpa [Lib.keeps] using hk
      refine ⟨List.pairwise_append.2 ⟨h1, List.pairwise_singleton _ _, fun x hx y hy => ?_⟩, fun x => ⟨fun hx => ?_, fun ⟨i, hi, e⟩ => ?_⟩⟩
      · rw [List.mem_singleton] at hy
        subst hy
        obtain ⟨i, hi, rfl⟩ := (h2 x).1 hx
        have a1 := h i (m - 1) (by omega) (by omega)
        have a2 := h (m - 1) m (by omega) (by omega)
        have : d[m]! ≠ d[m - 1]! := hne.resolve_left (by omega)
        omega
      · rcases List.mem_append.1 hx with hx | hx
        · obtain ⟨i, hi, e⟩ := (h2 x).1 hx
          exact ⟨i, by omega, e⟩
        · rw [List.mem_singleton] at hx
          exact ⟨m, by omega, hx.symm⟩
      · by_cases hm' : i = m
        · subst hm'
          exact List.mem_append.2 (.inr (by rw [e]; exact List.mem_singleton.2 rfl))
        · exact List.mem_append.2 (.inl ((h2 x).2 ⟨i, by omega, e⟩))
    | false =>
      rw [if_neg (by decide), List.append_nil]
      have hne : m ≠ 0 ∧ d[m]! = d[m - 1]! := by
        have : ¬ (m = 0 ∨ d[m]! ≠ d[m - 1]!) := by simpa [Lib.keeps] using hk
        refine ⟨fun h => this (.inl h), ?_⟩
        by_cases e : d[m]! = d[m - 1]!
        · exact e
        · exact absurd (.inr e) this
      refine ⟨h1, fun x => ⟨fun hx => ?_, fun ⟨i, hi, e⟩ => ?_⟩⟩
      · obtain ⟨i, hi, e⟩ := (h2 x).1 hx
        exact ⟨i, by omega, e⟩
      · by_cases hm' : i = m
        · subst hm'
          exact (h2 x).2 ⟨i - 1, by omega, by rw [← e, hne.2]⟩
        · exact (h2 x).2 ⟨i, by omega, e⟩
theorem comp_len (d : Array Int) : ∀ m, (Lib.compactUpTo d m).length ≤ m
  | 0 => Nat.le_refl _
  | m + 1 => by
    have := comp_len d m
    rw [Lib.compactUpTo_succ, List.length_append]
    cases Lib.keeps d m <;> simp <;> omega
/-- The numbers of a list, each once, as they rise. -/
def uniqI (l : List Int) : List Int := Lib.compact (l.mergeSort fun x y => decide (x ≤ y))
theorem uniq_sd (l : List Int) : Sd (uniqI l) l := by
  have hp := List.mergeSort_perm l fun x y => decide (x ≤ y)
  have hs : (l.mergeSort fun x y => decide (x ≤ y)).Pairwise (fun x y => decide (x ≤ y) = true) := List.pairwise_mergeSort (fun a b c h1 h2 => by simp at *; omega) (fun a b => by simp; omega) l
  unfold uniqI
  obtain ⟨s, hse⟩ : ∃ s, s = l.mergeSort fun x y => decide (x ≤ y) := ⟨_, rfl⟩
  rw [← hse] at hp hs ⊢
  have hle : ∀ i j, i ≤ j → j < s.toArray.size → s.toArray[i]! ≤ s.toArray[j]! := by
    intro i j hij hj
    have hj' : j < s.length := by simpa using hj
    have hi' : i < s.length := by omega
    simp only [List.getElem!_toArray]
    rw [getElem!_pos s i hi', getElem!_pos s j hj']
    by_cases e : i = j
    · subst e; exact Int.le_refl _
    · have := List.pairwise_iff_getElem.1 hs i j hi' hj' (by omega)
      simpa using this
  obtain ⟨h1, h2⟩ := comp_upto s.toArray hle s.length (by simp)
  refine ⟨h1, fun x => ?_, ?_⟩
  · rw [← hp.mem_iff]
    refine (h2 x).trans ⟨fun ⟨i, hi, e⟩ => ?_, fun hx => ?_⟩
    · simp only [List.getElem!_toArray] at e
      rw [getElem!_pos s i hi] at e
      rw [← e]; exact List.getElem_mem _
    · obtain ⟨i, hi, e⟩ := List.getElem_of_mem hx
      refine ⟨i, hi, ?_⟩
      simp only [List.getElem!_toArray]
      rw [getElem!_pos s i hi, e]
  · have := comp_len s.toArray s.length
    rw [← hp.length_eq]
    exact this
theorem rises_one : ∀ (l m : List Int), l.Pairwise (· < ·) → m.Pairwise (· < ·) → (∀ x, x ∈ l ↔ x ∈ m) → l = m
  | [], [], _, _, _ => rfl
  | [], y :: m, _, _, h => absurd ((h y).2 (by simp)) (by simp)
  | x :: l, [], _, _, h => absurd ((h x).1 (by simp)) (by simp)
  | x :: l, y :: m, h1, h2, h => by
    rw [List.pairwise_cons] at h1 h2
    have hxy : x = y := by
      rcases List.mem_cons.1 ((h x).1 (by simp)) with e | hx
      · exact e
      · rcases List.mem_cons.1 ((h y).2 (by simp)) with e | hy
        · exact e.symm
        · have a1 := h2.1 x hx
          have a2 := h1.1 y hy
          omega
    subst hxy
    rw [rises_one l m h1.2 h2.2 fun z => ⟨fun hz => ?_, fun hz => ?_⟩]
    · rcases List.mem_cons.1 ((h z).1 (by simp [hz])) with e | hz'
      · subst e; exact absurd (h1.1 z hz) (by omega)
      · exact hz'
    · rcases List.mem_cons.1 ((h z).2 (by simp [hz])) with e | hz'
      · subst e; exact absurd (h2.1 z hz) (by omega)
      · exact hz'
theorem sd_uniq {L S : List Int} (h : Sd L S) : L = uniqI S :=
  rises_one L (uniqI S) h.1 (uniq_sd S).1 fun x => (h.2.1 x).trans ((uniq_sd S).2.1 x).symm
end Go.Proofs.YtmagpdblacgneaaGreat
/-
  DERIVED: THE SHELF's CONTRACTS AT THIS DUMP, IN PLAIN WORDS (tools/lay-plain.mjs out of 'YtmagpdblacgneaaGreatShelf.lean', which tools/lay-shelf.mjs wrote): THE SAME DECLARATIONS UNDER THE SAME NAMES: 'import', 'namespace', 'open', 'def', 'theorem' AND NOTHING ELSE: no command of the shelf's: FOR A HAND-IN. Each laying: the table of numbers ('.._ren') and one theorem, a field a fact of the dump's own or the kernel's comparison; each contract: ONE APPLICATION.
-/
namespace Go.Proofs
open Go.Shelf
def Tryz.sortI_ren : Go.Shelf.Ren := ⟨fun | 189 => 35 | 125 => 54 | 257 => 53 | 128 => 75 | 129 => 76 | 294 => 66 | 295 => 67 | 296 => 68 | 297 => 69 | 298 => 70 | 299 => 71 | 216 => 72 | 300 => 73 | 301 => 74 | 328 => 94 | 329 => 95 | 330 => 96 | 331 => 97 | 332 => 98 | 215 => 99 | 343 => 105 | n => n, fun | 28 => 27 | 3 => 3 | 46 => 68 | 0 => 0 | 51 => 87 | 53 => 89 | 4 => 4 | 183 => 79 | 182 => 78 | 131 => 84 | 5 => 5 | 9 => 9 | 218 => 93 | 222 => 97 | 228 => 103 | 229 => 104 | n => n, fun | n => n⟩
theorem Tryz.sortI : Go.Proofs.Lays.n189 Tryz.prog Tryz.sortI_ren := {
  mixed := by kernel_rfl
  f125 := Tryz.func54.trans (congrArg some (by kernel_rfl))
  f128 := Tryz.func75.trans (congrArg some (by kernel_rfl))
  f129 := Tryz.func76.trans (congrArg some (by kernel_rfl))
  f189 := Tryz.func35.trans (congrArg some (by kernel_rfl))
  f215 := Tryz.func99.trans (congrArg some (by kernel_rfl))
  f216 := Tryz.func72.trans (congrArg some (by kernel_rfl))
  f257 := Tryz.func53.trans (congrArg some (by kernel_rfl))
  f294 := Tryz.func66.trans (congrArg some (by kernel_rfl))
  f295 := Tryz.func67.trans (congrArg some (by kernel_rfl))
  f296 := Tryz.func68.trans (congrArg some (by kernel_rfl))
  f297 := Tryz.func69.trans (congrArg some (by kernel_rfl))
  f298 := Tryz.func70.trans (congrArg some (by kernel_rfl))
  f299 := Tryz.func71.trans (congrArg some (by kernel_rfl))
  f300 := Tryz.func73.trans (congrArg some (by kernel_rfl))
  f301 := Tryz.func74.trans (congrArg some (by kernel_rfl))
  f328 := Tryz.func94.trans (congrArg some (by kernel_rfl))
  f329 := Tryz.func95.trans (congrArg some (by kernel_rfl))
  f330 := Tryz.func96.trans (congrArg some (by kernel_rfl))
  f331 := Tryz.func97.trans (congrArg some (by kernel_rfl))
  f332 := Tryz.func98.trans (congrArg some (by kernel_rfl))
  f343 := Tryz.func105.trans (congrArg some (by kernel_rfl))
  t0 := Tryz.underlying0
  a0 := Tryz.isAgg0
  z0 := Tryz.sizeOf0
  v0 := Tryz.zeroValue0
  t3 := Tryz.underlying3
  a3 := Tryz.isAgg3
  z3 := Tryz.sizeOf3
  v3 := Tryz.zeroValue3
  t4 := Tryz.underlying4
  a4 := Tryz.isAgg4
  z4 := Tryz.sizeOf4
  v4 := Tryz.zeroValue4
  t5 := Tryz.underlying5
  a5 := Tryz.isAgg5
  z5 := Tryz.sizeOf5
  v5 := Tryz.zeroValue5
  t9 := Tryz.underlying9
  a9 := Tryz.isAgg9
  z9 := Tryz.sizeOf9
  v9 := Tryz.zeroValue9
  t28 := Tryz.underlying27
  a28 := Tryz.isAgg27
  z28 := Tryz.sizeOf27
  v28 := Tryz.zeroValue27
  t46 := Tryz.underlying68
  a46 := Tryz.isAgg68
  z46 := Tryz.sizeOf68
  v46 := Tryz.zeroValue68
  t51 := Tryz.underlying87
  a51 := Tryz.isAgg87
  z51 := Tryz.sizeOf87
  v51 := Tryz.zeroValue87
  t53 := Tryz.underlying89
  a53 := Tryz.isAgg89
  z53 := Tryz.sizeOf89
  v53 := Tryz.zeroValue89
  t131 := Tryz.underlying84
  a131 := Tryz.isAgg84
  z131 := Tryz.sizeOf84
  v131 := Tryz.zeroValue84
  t182 := Tryz.underlying78
  a182 := Tryz.isAgg78
  z182 := Tryz.sizeOf78
  v182 := Tryz.zeroValue78
  t183 := Tryz.underlying79
  a183 := Tryz.isAgg79
  z183 := Tryz.sizeOf79
  v183 := Tryz.zeroValue79
  t218 := Tryz.underlying93
  a218 := Tryz.isAgg93
  z218 := Tryz.sizeOf93
  v218 := Tryz.zeroValue93
  t222 := Tryz.underlying97
  a222 := Tryz.isAgg97
  z222 := Tryz.sizeOf97
  v222 := Tryz.zeroValue97
  t228 := Tryz.underlying103
  a228 := Tryz.isAgg103
  z228 := Tryz.sizeOf103
  v228 := Tryz.zeroValue103
  t229 := Tryz.underlying104
  a229 := Tryz.isAgg104
  z229 := Tryz.sizeOf104
  v229 := Tryz.zeroValue104 }
def Tryz.compI_ren : Go.Shelf.Ren := ⟨fun | 20 => 36 | n => n, fun | 22 => 27 | 3 => 3 | 4 => 4 | 0 => 0 | n => n, fun | n => n⟩
theorem Tryz.compI : Go.Proofs.Lays2.n20 Tryz.prog Tryz.compI_ren := {
  mixed := by kernel_rfl
  f20 := Tryz.func36.trans (congrArg some (by kernel_rfl))
  t0 := Tryz.underlying0
  a0 := Tryz.isAgg0
  z0 := Tryz.sizeOf0
  v0 := Tryz.zeroValue0
  t3 := Tryz.underlying3
  a3 := Tryz.isAgg3
  z3 := Tryz.sizeOf3
  v3 := Tryz.zeroValue3
  t4 := Tryz.underlying4
  a4 := Tryz.isAgg4
  z4 := Tryz.sizeOf4
  v4 := Tryz.zeroValue4
  t22 := Tryz.underlying27
  a22 := Tryz.isAgg27
  z22 := Tryz.sizeOf27
  v22 := Tryz.zeroValue27
  i3 := by kernel_rfl }
end Go.Proofs

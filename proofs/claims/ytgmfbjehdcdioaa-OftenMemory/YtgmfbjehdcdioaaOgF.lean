import Derived.Test.YtgmfbjehdcdioaaOgB
set_option linter.unusedSimpArgs false
set_option linter.unusedVariables false
set_option maxRecDepth 100000
namespace Go.Proofs.Ytgmfbjehdcdioaa
open Go.RowKit Go.Sort Go.Shelf Go.Lib

theorem Try.info47 : (Try.prog.info? 47).map (fun i => (i.zero, i.size, i.bytes)) = some (some (.agg #[.int .i64 0, .int .i64 0, .string ⟨#[]⟩, .int .i64 0, .int .i64 0]), 5, 48) := by kernel_rfl
/-- What is told of a value, in its cells. -/
def c5 (x : Cn) : List Value := [.int .i64 x.k, .int .i64 x.n, .string x.s, .int .i64 x.lo, .int .i64 x.hi]
theorem c5_len (xs : List Cn) : (xs.flatMap c5).length = xs.length * 5 := by
  induction xs with
  | nil => rfl
  | cons x l ih => rw [List.flatMap_cons, List.length_append, ih]; simp [c5]; omega
theorem c5_one (x : Cn) : ∀ v ∈ c5 x, v.oneCell' = true := by
  intro v hv
  simp only [c5, List.mem_cons, List.not_mem_nil, or_false] at hv
  rcases hv with rfl | rfl | rfl | rfl | rfl <;> rfl
theorem c5_at : ∀ (xs : List Cn) (j q : Nat) (x : Cn), xs[j]? = some x → q < 5 → (xs.flatMap c5)[j * 5 + q]? = (c5 x)[q]?
  | [], j, q, x, h, _ => by simp at h
  | z :: l, 0, q, x, h, hq => by
    simp at h; subst h
    rw [Nat.zero_mul, Nat.zero_add, List.flatMap_cons, List.getElem?_append_left (by simp [c5]; omega)]
  | z :: l, j + 1, q, x, h, hq => by
    have ih := c5_at l j q x (by simpa using h) hq
    rw [List.flatMap_cons, List.getElem?_append_right (by simp [c5]; omega), ← ih]
    congr 1
    simp [c5]; omega
instance : Inhabited Cn := ⟨⟨0, 0, ⟨#[]⟩, 0, 0⟩⟩

/-- append(list, what is told), as one step of a region that draws. -/
theorem step_app_found {ops : Array Oper} {o : Oper} {a : Act} {w : World} {K : Act → World → Prop} {Q : Exit → Act → World → Prop} {E : Prop} (hgd : o.guard = none) (d x : Operand)
    (hop : o.op = Op.call { callee := Callee.builtin Builtin.append, args := #[d, x], argTypes := #[42, 42] })
    (base : Nat) (s : Value) (n : Nat) (xs : List Cn) (hn : n = xs.length) (hd : a.eval d = s) (ho : w.ownsRow base 47 5 s n (xs.flatMap c5)) (ab : Nat) (y : Cn) (hx : a.eval x = .slice (some ⟨ab, 0, none⟩) 1 1)
    (m0 : w.cell? ⟨ab, 0, none⟩ = some (.int .i64 y.k)) (m1 : w.cell? ⟨ab, 1, none⟩ = some (.int .i64 y.n)) (m2 : w.cell? ⟨ab, 2, none⟩ = some (.string y.s)) (m3 : w.cell? ⟨ab, 3, none⟩ = some (.int .i64 y.lo)) (m4 : w.cell? ⟨ab, 4, none⟩ = some (.int .i64 y.hi)) (hl : n ≤ 4096) (hbs : base ≤ w.heap.size)
    (h : ∀ a5 k5 w1, w1.ownsRow base 47 5 (.slice a5 (n + 1) k5) (n + 1) ((xs ++ [y]).flatMap c5) → w.grownBy w1 s.ownBlock → ((Value.slice a5 (n + 1) k5).ownBlock = s.ownBlock ∨ (Value.slice a5 (n + 1) k5).ownBlock = some w.heap.size) → K (a.put o.dst (.slice a5 (n + 1) k5)) w1) :
    if Region.wanted o (yielded ops a.tmps) = true then Oper.wp Try.prog o a w K Q else E := by
  have hw : Region.wanted o (yielded ops a.tmps) = true := by simp [Region.wanted, hgd]
  rw [if_pos hw]
  obtain ⟨i2, hi2, z20, z21, z22⟩ := info_parts Try.info47
  obtain ⟨s', w1, hr, h2, h3, _, h5⟩ := run_append_own_at (P := Try.prog) (w := w) base 42 o.type 47 i2 (.agg #[.int .i64 0, .int .i64 0, .string ⟨#[]⟩, .int .i64 0, .int .i64 0]) 5 48 Try.underlying42 hi2 z20 z21 z22 rfl (by decide) s n (xs.flatMap c5) ho ⟨ab, 0, none⟩ 1 1 (c5 y) rfl (by
    intro j u hu
    rw [Addr.add_lit]
    match j, hu with
    | 0, hu => simp [c5] at hu; subst hu; exact m0
    | 1, hu => simp [c5] at hu; subst hu; exact m1
    | 2, hu => simp [c5] at hu; subst hu; exact m2
    | 3, hu => simp [c5] at hu; subst hu; exact m3
    | 4, hu => simp [c5] at hu; subst hu; exact m4
    | j + 5, hu => simp [c5] at hu) (c5_one y) (by unfold maxLen; omega) (by omega) hbs
  obtain ⟨a5, k5, rfl⟩ : ∃ a5 k5, s' = .slice a5 (n + 1) k5 := by
    rcases h2.2 with ⟨_, h0⟩ | ⟨g, cap, cur, he, _⟩
    · omega
    · exact ⟨_, _, he⟩
  have e : xs.flatMap c5 ++ c5 y = (xs ++ [y]).flatMap c5 := by rw [List.flatMap_append]; simp
  rw [e] at h2
  unfold Oper.wp execOp
  simp only [hop, resolve, invoke, builtin, Sem.run_bind, Sem.run_pure, Result.andThen_ok, List.map_toArray, List.map_cons, List.map_nil, hd, hx, hr]
  exact h a5 k5 w1 h2 h3 h5

def ordC (x y : Cn) : Int := ordV x.key y.key
theorem swoC : SWO (ltOf ordC) where
  irrefl x := swoV.irrefl x.key
  trans x y z h1 h2 := swoV.trans x.key y.key z.key h1 h2
  ntrans x y z h1 h2 := swoV.ntrans x.key y.key z.key h1 h2

set_option maxHeartbeats 1000000 in
theorem cmp30 (x y : Cn) (w : World) : Calls Try.prog 30 #[.agg #[.int .i64 x.k, .int .i64 x.n, .string x.s, .int .i64 x.lo, .int .i64 x.hi], .agg #[.int .i64 y.k, .int .i64 y.n, .string y.s, .int .i64 y.lo, .int .i64 y.hi]] w fun e w' => e = .returned (.int .i64 (ordC x y)) ∧ Up w w' := by
  have HO : Hid (∀ W, Calls Try.prog 28 #[.agg #[.int .i64 x.k, .int .i64 x.n, .string x.s], .agg #[.int .i64 y.k, .int .i64 y.n, .string y.s]] W fun e w' => e = .returned (.int .i64 (ordC x y)) ∧ Up W w') := fun W => order_up x.key y.key W
  go_enter Try.func30, Try.ntmps30
  go_wp2_with (go_at_call 28; refine (unhide HO _).mono ?_; rintro _ w1 ⟨rfl, hu⟩)
  go_ret
  refine ⟨rfl, below_step (below_alloc (below_alloc (Below.refl _ _) _) _) hu.1, ?_⟩
  have := hu.2
  simpa using this
theorem cmpLays30 (blk off size : Nat) (w : World) : CmpLays Try.prog 30 #[] c5 5 ordC blk off size w :=
  fun _ _ _ _ x y => (cmp30 x y _).mono fun _ _ ⟨he, hu⟩ => ⟨he, hu.grown⟩
theorem flatK_c5 (d : Array Cn) : (flatK c5 5 d).toList = d.toList.flatMap c5 := by
  refine List.ext_getElem? fun j => ?_
  by_cases hj : j < d.size * 5
  · have hd : j / 5 < d.size := by omega
    have e1 : (d.toList)[j / 5]? = some d[j / 5]! := by rw [Array.getElem?_toList, getElem!_pos d (j / 5) hd]; exact Array.getElem?_eq_getElem hd
    have := c5_at d.toList (j / 5) (j % 5) _ e1 (by omega)
    rw [show j / 5 * 5 + j % 5 = j by omega] at this
    rw [this]
    simp only [flatK, Array.toList_map, List.getElem?_map]
    rw [Array.getElem?_toList, Array.getElem?_range, if_pos hj]
    simp only [Option.map_some]
    have h3 : j % 5 < (c5 d[j / 5]!).length := by simp [c5]; omega
    rw [getElem!_pos (c5 d[j / 5]!) (j % 5) h3, List.getElem?_eq_getElem h3]
  · rw [List.getElem?_eq_none (by simp [flatK]; omega), List.getElem?_eq_none (by rw [c5_len]; simpa using hj)]
/-- A list of what is told, of the call's own. -/
def OwnF (w : World) (base : Nat) (S : Value) (xs : List Cn) : Prop := w.ownsRow base 47 5 S xs.length (xs.flatMap c5)
theorem OwnF.len {w : World} {base g N cap : Nat} {L : List Cn} (h : OwnF w base (.slice (some ⟨g, 0, none⟩) N cap) L) : N = L.length := by
  rcases h.2 with ⟨e, _⟩ | ⟨g', cap', cur, e, _⟩
  · cases e
  · injection e
theorem OwnF.slice {w : World} {base : Nat} {S : Value} {L : List Cn} (h : OwnF w base S L) : ∃ a c, S = .slice a L.length c := by
  rcases h.2 with ⟨e, h0⟩ | ⟨g, cap, cur, he, _⟩
  · rw [← h0] at e; exact ⟨_, _, e⟩
  · exact ⟨_, _, he⟩
theorem ownF_holdsK {w : World} {base g cap N : Nat} {xs : List Cn} (h : OwnF w base (.slice (some ⟨g, 0, none⟩) N cap) xs) : HoldsK c5 5 w g 0 xs.toArray := by
  intro j hj
  have hN := h.len
  subst hN
  rw [size_flatK] at hj
  have hj' : j < xs.length * 5 := by simpa using hj
  have e1 := flatK_c5 xs.toArray
  refine ⟨?_, ?_⟩
  · rw [Nat.zero_add, World.ownsRow.cellAt h j hj']
    simp only [List.toList_toArray] at e1
    rw [← e1, Array.getElem?_toList, Array.getElem?_eq_getElem (by simpa using hj')]
    rw [getElem!_pos _ _ (by simpa using hj')]
    rfl
  · rw [Nat.zero_add]; exact World.ownsRow.frozenAt h j
theorem ownF_sorted {w : World} {base g cap N n : Nat} {xs : List Cn} {d' : Array Cn} {os : Array Obj} (h : OwnF w base (.slice (some ⟨g, 0, none⟩) N cap) xs) (hs : d'.size = xs.length) :
    OwnF (sortWorldK c5 5 w g 0 n d' os) base (.slice (some ⟨g, 0, none⟩) N cap) d'.toList ∧ w.grownBy (sortWorldK c5 5 w g 0 n d' os) (some g) := by
  have hN := h.len
  subst hN
  rcases h.2 with ⟨e, _⟩ | ⟨g', cap', cur, e, hb, hh, hnc, hcm, hcs, htake⟩
  · cases e
  injection e with e1 e2 e3
  injection e1 with e1
  injection e1 with e1
  subst e1 e3
  have hlt : g < w.heap.size := (Array.getElem?_eq_some_iff.1 hh).1
  have hs2 : d'.toList.length = xs.length := by simpa using hs
  have hheap : (sortWorldK c5 5 w g 0 n d' os).heap[g]? = some (.cells (putCells id 0 (flatK c5 5 d') cur) 47 (0, 0)) := by
    unfold sortWorldK grow putRowK putRow mapBlock
    simp only [Sort.ahead]
    rw [Array.getElem?_append_left (by simpa using hlt), Array.getElem?_modify, if_pos rfl, hh]
    rfl
  refine ⟨⟨?_, .inr ⟨g, cap, putCells id 0 (flatK c5 5 d') cur, by rw [hs2], hb, hheap, by rw [hs2]; exact hnc, hcm, by simp [putCells, hcs], ?_⟩⟩, ⟨rfl, rfl, rfl, ?_, ?_⟩⟩
  · rw [c5_len]
  · rw [← flatK_c5, Array.length_toList]
    refine List.ext_getElem? fun j => ?_
    rw [List.getElem?_take]
    by_cases hj : j < d'.size * 5
    · rw [if_pos hj, Array.getElem?_toList, Array.getElem?_toList]
      have hjc : j < cur.size := by rw [hcs]; omega
      simp only [putCells, Array.getElem?_mapIdx, Array.getElem?_eq_getElem hjc, Option.map_some]
      rw [if_pos ⟨Nat.zero_le _, by rw [size_flatK]; omega⟩, Nat.sub_zero, Array.getElem?_eq_getElem (by rw [size_flatK]; exact hj), getElem!_pos _ _ (by rw [size_flatK]; exact hj)]
      rfl
    · rw [if_neg hj, List.getElem?_eq_none (by rw [Array.length_toList, size_flatK]; omega)]
  · unfold sortWorldK grow putRowK putRow mapBlock
    simp [Sort.ahead]
  · intro k hk hne
    have hkg : g ≠ k := fun e => hne (by rw [e])
    unfold sortWorldK grow putRowK putRow mapBlock
    simp only [Sort.ahead]
    rw [Array.getElem?_append_left (by simpa using hk), Array.getElem?_modify, if_neg hkg]

theorem fsort_any (base : Nat) (xs : List Cn) (v : Value) (w : World) (hl : xs.length ≤ 1048576) (hown : OwnF w base v xs) :
    Calls Try.prog 29 #[v, .func (.func 30) #[] #[]] w fun e w' => e = .returned (.tuple #[]) ∧ ∃ ys, OwnF w' base v ys ∧ w.grownBy w' v.ownBlock ∧ ys.Perm xs ∧ ys.Pairwise fun x y => ordC x y ≤ 0 := by
  rcases hown.2 with ⟨rfl, h0⟩ | ⟨g, cap, cur, rfl, rest⟩
  · have hx : xs = [] := List.eq_nil_of_length_eq_zero h0
    subst hx
    have hcon := AnyF.slices_SortFunc_none Try.sortF none 0 (.func (.func 30) #[] #[]) w
    change Calls Try.prog 29 _ _ _ at hcon
    refine hcon.mono ?_
    rintro e w' ⟨rfl, rfl⟩
    exact ⟨rfl, [], hown, ⟨rfl, rfl, rfl, Nat.le_refl _, fun _ _ _ => rfl⟩, List.Perm.refl _, List.Pairwise.nil⟩
  · have eg : ∀ args w, (callFunc 30 args).run Try.prog w = .ok (.enter 30 args) w := enters_of Try.func30 (by kernel_rfl) rfl
    have hcon := AnyQ.slices_SortFunc Try.sortF 5 Try.isAgg47 Try.sizeOf47 c5 (fun _ => rfl) c5_one ordC swoC 30 #[] g 0 cap xs.toArray w eg (cmpLays30 g 0 _ w) (ownF_holdsK hown) (World.ownsRow.lt hown g rfl).2 (by simp; omega)
    change Calls Try.prog 29 _ _ _ at hcon
    have e1 : xs.toArray.size = xs.length := by simp
    rw [e1] at hcon
    refine hcon.mono ?_
    rintro e w' ⟨rfl, d', n, os, hp, hs, rfl⟩
    obtain ⟨hp1, hp2, hp3⟩ := hp
    have hsz : d'.size = xs.length := by rw [hp1]; simp
    obtain ⟨q1, q2⟩ := ownF_sorted (n := n) (os := os) hown hsz
    refine ⟨rfl, d'.toList, q1, q2, ?_, ?_⟩
    · have e2 : d'.extract 0 xs.length = d' := by rw [← hsz]; simp
      have e3 : xs.toArray.extract 0 xs.length = xs.toArray := by rw [← e1]; simp
      rw [e2, e3] at hp3
      simpa using hp3
    · refine List.pairwise_iff_getElem.2 fun i j hi hj hij => ?_
      have hi' : i < d'.size := by simpa using hi
      have hj' : j < d'.size := by simpa using hj
      have := hs i j (Nat.zero_le _) hij (by omega)
      rw [getElem!_pos d' i hi', getElem!_pos d' j hj'] at this
      simp only [ltOf, decide_eq_false_iff_not] at this
      have h2 := ord_anti (d'[i]'hi').key (d'[j]'hj').key
      simp only [Array.getElem_toList]
      unfold ordC at this ⊢
      omega
end Go.Proofs.Ytgmfbjehdcdioaa

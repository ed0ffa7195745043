import Derived.Test.YtmagpdblacgneaaGreatPaB
import Derived.Test.YtmagpdblacgneaaGreatExV
set_option linter.unusedSimpArgs false
set_option linter.unusedVariables false
namespace Go.Proofs.YtmagpdblacgneaaGreat
open Go.RowKit Go.Sort

theorem all_none {w : World} {l : List Ex} (h : Ex.all w none l) : l = [] := by
  cases l with
  | nil => rfl
  | cons e l => rw [Ex.all] at h; obtain ⟨b, off, h, _⟩ := h; cases h
/-- While the parts are made: those ahead of k are, the others are as they were. -/
def MInv (g : Ex → Ex) (L0 : List Nd) (B gb n cap : Nat) (W1 : World) (k : Nat) (wr : World) : Prop := ∃ L : List Nd, OwnE wr B (.slice (some ⟨gb, 0, none⟩) n cap) L ∧ L.length = L0.length ∧ (∀ i, k ≤ i → L[i]? = L0[i]?) ∧ (∃ K : Nat → Nat → Prop, (∀ i q q0, i < k → L[i]? = some q → L0[i]? = some q0 → q.1 = madeE g q0.1 ∧ Ow wr q.1.args q.2.1 q.2.2 (K i)) ∧ (∀ i b, K i b → i < k ∧ gb < b ∧ b < wr.heap.size) ∧ ∀ i j b, i ≠ j → K i b → K j b → False) ∧ Below B W1 wr
theorem MInv.load {g : Ex → Ex} {L0 : List Nd} {B gb n cap k : Nat} {W1 wr : World} {q0 : Nd} (h : MInv g L0 B gb n cap W1 k wr) (hq0 : L0[k]? = some q0) : Cells6 wr gb (k * 6) q0 := by
  obtain ⟨L, h1, h2, h3, h4, h5⟩ := h
  exact (h1.facts (by rw [h3 k (Nat.le_refl _)]; exact hq0)).1
theorem MInv.may {g : Ex → Ex} {L0 : List Nd} {B gb n cap k : Nat} {W1 wr w2 : World} {q0 : Nd} (h : MInv g L0 B gb n cap W1 k wr) (hb : Below wr.heap.size wr w2) (hq0 : L0[k]? = some q0) :
    Cells6 w2 gb (k * 6) q0 ∧ (w2.frozen? ⟨gb, k * 6, none⟩ = false ∧ w2.frozen? ⟨gb, k * 6 + 1, none⟩ = false ∧ w2.frozen? ⟨gb, k * 6 + 2, none⟩ = false ∧ w2.frozen? ⟨gb, k * 6 + 3, none⟩ = false ∧ w2.frozen? ⟨gb, k * 6 + 4, none⟩ = false ∧ w2.frozen? ⟨gb, k * 6 + 5, none⟩ = false) := by
  obtain ⟨L, h1, h2, h3, h4, h5⟩ := h
  exact (h1.later hb).facts (by rw [h3 k (Nat.le_refl _)]; exact hq0)
theorem MInv.step {g : Ex → Ex} {L0 : List Nd} {B gb n cap k lo : Nat} {W1 wr w2 : World} {q q0 : Nd} (h : MInv g L0 B gb n cap W1 k wr) (hb : Below wr.heap.size wr w2) (hq0 : L0[k]? = some q0) (hx : q.1 = madeE g q0.1) (hk : ExK lo w2 q.2.1 q.2.2 q.1.args) (hlo : wr.heap.size ≤ lo) (hgr : gb < wr.heap.size) (hB : B ≤ gb) (hBr : B ≤ wr.heap.size) :
    MInv g L0 B gb n cap W1 (k + 1) ((((((w2.setCell ⟨gb, k * 6, none⟩ (.int .i64 q.1.op)).setCell ⟨gb, k * 6 + 1, none⟩ (.int .i64 q.1.n)).setCell ⟨gb, k * 6 + 2, none⟩ (.int .i64 q.1.v.k)).setCell ⟨gb, k * 6 + 3, none⟩ (.int .i64 q.1.v.n)).setCell ⟨gb, k * 6 + 4, none⟩ (.string q.1.v.s)).setCell ⟨gb, k * 6 + 5, none⟩ (.slice q.2.1 q.1.args.length q.2.2)) := by
  obtain ⟨L, h1, h2, h3, ⟨K, h4, hKb, hKd⟩, h5⟩ := h
  have hkl := (List.getElem?_eq_some_iff.1 hq0).1
  obtain ⟨W3, hW3⟩ : ∃ W3, ((((((w2.setCell ⟨gb, k * 6, none⟩ (.int .i64 q.1.op)).setCell ⟨gb, k * 6 + 1, none⟩ (.int .i64 q.1.n)).setCell ⟨gb, k * 6 + 2, none⟩ (.int .i64 q.1.v.k)).setCell ⟨gb, k * 6 + 3, none⟩ (.int .i64 q.1.v.n)).setCell ⟨gb, k * 6 + 4, none⟩ (.string q.1.v.s)).setCell ⟨gb, k * 6 + 5, none⟩ (.slice q.2.1 q.1.args.length q.2.2)) = W3 := ⟨_, rfl⟩
  have hKs : Kept (gb + 1) [] w2 W3 := by
    rw [← hW3]
    exact (((((Kept.of_low _ _ _ _ (by omega)).trans (Kept.of_low _ _ _ _ (by omega))).trans (Kept.of_low _ _ _ _ (by omega))).trans (Kept.of_low _ _ _ _ (by omega))).trans (Kept.of_low _ _ _ _ (by omega))).trans (Kept.of_low _ _ _ _ (by omega))
  obtain ⟨F, hF, hFb⟩ := hk
  have hsz := hKs.size
  have hs2 := hb.size
  have hnew : ∀ b, b < wr.heap.size → gb < b → W3.heap[b]? = wr.heap[b]? := fun b g1 g2 => by rw [hKs.block b (by omega) (by omega) (by simp), hb.block b g1]
  refine hW3 ▸ ⟨L.set k q, hW3 ▸ (h1.later hb).put (by omega) q, by rw [List.length_set]; exact h2, ?_, ⟨fun i => if i = k then F else K i, ?_, ?_, ?_⟩, ?_⟩
  · intro i hi
    rw [List.getElem?_set_ne (by omega)]
    exact h3 i (by omega)
  · intro i y y0 hi hy hy0
    by_cases hik : i = k
    · subst hik
      rw [List.getElem?_set_self (by omega)] at hy
      injection hy with hy
      rw [hq0] at hy0
      injection hy0 with hy0
      subst hy hy0
      refine ⟨hx, ?_⟩
      simp only [if_true]
      exact hF.keep fun b hbF => hKs.block b (by have := (hFb b hbF).1; omega) (hFb b hbF).2 (by simp)
    · rw [List.getElem?_set_ne (by omega)] at hy
      obtain ⟨g1, g2⟩ := h4 i y y0 (by omega) hy hy0
      refine ⟨g1, ?_⟩
      simp only [if_neg hik]
      exact g2.keep fun b hbF => hnew b (hKb i b hbF).2.2 (hKb i b hbF).2.1
  · intro i b hib
    by_cases hik : i = k
    · simp only [if_pos hik] at hib
      have := hFb b hib
      exact ⟨by omega, by omega, by omega⟩
    · simp only [if_neg hik] at hib
      have := hKb i b hib
      exact ⟨by omega, by omega, by omega⟩
  · intro i j b hij hi hj
    by_cases hik : i = k
    · have hjk : ¬ j = k := by omega
      simp only [if_pos hik] at hi
      simp only [if_neg hjk] at hj
      have := hFb b hi
      have := hKb j b hj
      omega
    · simp only [if_neg hik] at hi
      by_cases hjk : j = k
      · simp only [if_pos hjk] at hj
        have := hFb b hj
        have := hKb i b hi
        omega
      · simp only [if_neg hjk] at hj
        exact hKd i j b hij hi hj
  · rw [← hW3]
    have hb2 : Below B wr w2 := hb.mono hBr
    exact ((((((h5.trans hb2).setCell (by exact hB) _).setCell (by exact hB) _).setCell (by exact hB) _).setCell (by exact hB) _).setCell (by exact hB) _).setCell (by exact hB) _
theorem MInv.below {g : Ex → Ex} {L0 : List Nd} {B gb n cap k : Nat} {W1 wr : World} (h : MInv g L0 B gb n cap W1 k wr) : Below B W1 wr := by
  obtain ⟨L, h1, h2, h3, h4, h5⟩ := h
  exact h5
theorem MInv.done {g : Ex → Ex} {L0 : List Nd} {B gb n cap lo : Nat} {W1 wr : World} (h : MInv g L0 B gb n cap W1 L0.length wr) (hlo : lo ≤ gb) (hB : lo ≤ B) : ExK lo wr (some ⟨gb, 0, none⟩) cap (L0.map fun q => madeE g q.1) := by
  obtain ⟨L, h1, h2, h3, ⟨K, h4, hKb, hKd⟩, h5⟩ := h
  have e : L0.map (fun q => madeE g q.1) = L.map (·.1) := by
    apply List.ext_getElem?
    intro i
    rw [List.getElem?_map, List.getElem?_map]
    by_cases hi : i < L0.length
    · rw [List.getElem?_eq_getElem hi, List.getElem?_eq_getElem (by omega : i < L.length)]
      have := (h4 i _ _ hi (List.getElem?_eq_getElem (by omega : i < L.length)) (List.getElem?_eq_getElem hi)).1
      simp only [Option.map_some]
      rw [this]
    · rw [List.getElem?_eq_none (by omega), List.getElem?_eq_none (by omega)]
      rfl
  rw [e]
  refine ExK.row (K := K) h1 (fun i q hi => ?_) (fun i q b _ hb => ?_) hKd hB
  · have hil := (List.getElem?_eq_some_iff.1 hi).1
    exact (h4 i q _ (by omega) hi (List.getElem?_eq_getElem (by omega : i < L0.length))).2
  · have := hKb i b hb
    refine ⟨by omega, this.2.2, fun e => ?_⟩
    simp only [Value.ownBlock, Option.some.injEq] at e
    omega
set_option maxHeartbeats 1000000 in
set_option maxRecDepth 100000 in
theorem made_step (e : Ex) (hs : e.short) (F : Value) (g : Ex → Ex) (P : Ex → Prop) (a : Option Addr) (c : Nat) (w : World) (ha : Ex.all w a e.args) (hby : By w F g P) (hP : P (nodeG g e))
    (IH : ∀ (i : Nat) (x : Ex), e.args[i]? = some x → ∀ (a' : Option Addr) (c' : Nat) (W : World), Ex.all W a' x.args → By W F g P → Calls Tryz.prog 23 #[x.val a' c', F] W fun r w' => ∃ a2 c2, r = .returned ((madeE g x).val a2 c2) ∧ ExK W.heap.size w' a2 c2 (madeE g x).args ∧ Below W.heap.size W w') :
    Calls Tryz.prog 23 #[e.val a c, F] w fun r w' => ∃ a2 c2, r = .returned ((madeE g e).val a2 c2) ∧ ExK w.heap.size w' a2 c2 (madeE g e).args ∧ Below w.heap.size w w' := by
  rw [madeE_eq g e]
  have HBY := hide hby
  obtain ⟨nf, kf, rfl, ent, HF⟩ := hby
  unfold Enters at ent
  have HF := hide HF
  have HIH := hide IH
  have HP := hide hP
  obtain ⟨hl, _⟩ := Ex.short_open hs
  have hBa := below_alloc (Below.refl _ w) (.cells #[.int .i64 e.op, .int .i64 e.n, .int .i64 e.v.k, .int .i64 e.v.n, .string e.v.s, .slice a e.args.length c] 26)
  have H6 : Hid (Six (w.alloc (.cells #[.int .i64 e.op, .int .i64 e.n, .int .i64 e.v.k, .int .i64 e.v.n, .string e.v.s, .slice a e.args.length c] 26)) w.heap.size e a c) := Six.new w e a c
  have HA := hide ha
  rw [Ex.val_open]
  have HCL : Hid (∀ W, Below w.heap.size w W → Calls Tryz.prog 42 #[.slice a e.args.length c] W fun r w' => ∃ (v : Value) (L0 : List Nd), r = .returned v ∧ L0.map (·.1) = e.args ∧ (∀ q ∈ L0, Ex.all W q.2.1 q.1.args) ∧ OwnE w' W.heap.size v L0 ∧ Below W.heap.size W w') := by
    intro W hW
    have hA := Ex.all_later _ ha hW
    obtain ⟨L0, h1, h2, h3⟩ := all_nodes _ _ hA
    have hll : L0.length = e.args.length := by rw [← h1, List.length_map]
    have h5 : L0 = [] ∨ ∃ b off, a = some ⟨b, off, none⟩ ∧ ∀ i q, L0[i]? = some q → Cells6 W b (off + i * 6) q := by
      rcases h3 with h3 | h3
      · exact .inl (List.eq_nil_of_length_eq_zero (by rw [hll, h3]; rfl))
      · exact .inr h3
    have h4 := eclone_any a c L0 W (by omega) h5 (fun h => List.eq_nil_of_length_eq_zero (by subst h; rw [hll, all_none hA]; rfl))
    rw [hll] at h4
    exact h4.mono fun r w' ⟨v, g1, g2, g3⟩ => ⟨v, L0, g1, h1, h2, g2, g3⟩
  clear IH hP ha
  go_enter Tryz.func23, Tryz.ntmps23
  obtain ⟨wa, hwa⟩ : ∃ wa, wa = (w.alloc (.cells #[.int .i64 e.op, .int .i64 e.n, .int .i64 e.v.k, .int .i64 e.v.n, .string e.v.s, .slice a e.args.length c] 26)).alloc (.cells #[.int .i64 0, .int .i64 0, .int .i64 0, .int .i64 0, .string ⟨#[]⟩, .slice none 0 0] 26) := ⟨_, rfl⟩
  have hBa2 : Below w.heap.size w wa := by rw [hwa]; exact below_alloc hBa _
  have HSX : Hid (Six wa w.heap.size e a c) := by rw [hwa]; exact (unhide H6).later (below_alloc (Below.refl _ _) _)
  have HZR : Hid (Box6 wa (w.heap.size + 1) zeroE none 0) := by
    have h := Box6.new (w.alloc (.cells #[.int .i64 e.op, .int .i64 e.n, .int .i64 e.v.k, .int .i64 e.v.n, .string e.v.s, .slice a e.args.length c] 26)) zeroE none 0
    rw [show (w.alloc (.cells #[.int .i64 e.op, .int .i64 e.n, .int .i64 e.v.k, .int .i64 e.v.n, .string e.v.s, .slice a e.args.length c] 26)).heap.size = w.heap.size + 1 by simp [go_sem]] at h
    rw [hwa]
    exact h
  have hsa : wa.heap.size = w.heap.size + 2 := by rw [hwa]; simp [go_sem]
  go_upto_region 1 with fail
  rw [← hwa]
  clear hwa hBa H6
  obtain ⟨s0, s1, s2, s3, s4, s5⟩ := unhide HSX
  go_wp2_with (go_at_call 42; refine (unhide HCL _ hBa2).mono ?_; rintro r w1 ⟨v1, L0, rfl, hL0, hL1, hO1, hb1⟩; obtain ⟨a1, cap1, rfl⟩ := hO1.slice)
  clear s0 s1 s2 s3 s4 s5
  have hll : e.args.length = L0.length := by rw [← hL0, List.length_map]
  have hl2 : L0.length ≤ 1000000000 := by omega
  have HL0 := hide hL0
  have HL1 := hide hL1
  have HB1 := hide hb1
  have HBA := hide hBa2
  have hmk : e.args.map (madeE g) = L0.map fun q => madeE g q.1 := by rw [← hL0, List.map_map]; rfl
  have HND : Hid (∀ (a' : Option Addr) (c' : Nat), (nodeG g e).val a' c' = .agg #[.int .i64 (needE e).op, .int .i64 (needE e).n, .int .i64 (needE e).v.k, .int .i64 (needE e).v.n, .string (needE e).v.s, .slice a' L0.length c']) := by
    intro a' c'
    have : (nodeG g e).args.length = L0.length := by show (e.args.map (madeE g)).length = _; rw [List.length_map]; exact hll
    rw [Ex.val_open, this]
    rfl
  have HNA : Hid ((nodeG g e).args = L0.map fun q => madeE g q.1) := hmk
  clear hL0 hL1 hb1 hBa2 hmk hll
  by_cases h0 : L0 = []
  · subst h0
    have HD0 : Hid (ExK wa.heap.size w1 a1 cap1 ([] : List Ex)) := ExK.row (L := []) (K := fun _ _ => False) hO1 (fun i q h => by simp at h) (fun i q b _ h => h.elim) (fun _ _ _ _ h => h.elim) (Nat.le_refl _)
    clear hO1
    go_loopw [14] (fun i wr => i = .int .i64 0 ∧ wr = w1) (fun _ _ => 0)
    case atStart => exact ⟨rfl, rfl⟩
    case round =>
      obtain ⟨rfl, rfl⟩ := hrel
      have hba := unhide HB1
      have HDN : Hid (ExK wa.heap.size wr a1 cap1 (([] : List Nd).map fun q => madeE g q.1)) := HD0
      obtain ⟨s0, s1, s2, s3, s4, s5⟩ := (unhide HSX).later hba
      have HNE := hide (needed_any e a c wr)
      have HBR := hide hba
      rw [Ex.val_open] at HNE
      clear HIH HL0 HL1 hba
      go_wp2_with (first
        | (go_at_call 43; refine (unhide HNE).mono ?_; rintro r w2 ⟨rfl, hb2⟩; have hBW := below_alloc (below_step (below_step (unhide HBA) (unhide HBR)) hb2) (.cells #[.int .i64 (needE e).op, .int .i64 (needE e).n, .int .i64 (needE e).v.k, .int .i64 (needE e).v.n, .string (needE e).v.s, .slice a1 0 cap1] 26); have HFN := hide (unhide HF _ wa.heap.size (nodeG g e) a1 cap1 hBW (below_alloc (below_step (unhide HBR) hb2) _).size (unhide HP) (by rw [unhide HNA]; exact (unhide HDN).on (Kept.of_below _ _ (below_alloc hb2 _)))); rw [unhide HND] at HFN; rw [Ex.val_open]; clear hBW)
        | (refine (unhide HFN).mono ?_; rintro r w4 ⟨a2, c2, rfl, hK4, hb4⟩; have HK4 := hide hK4; have hE4 := below_step (below_alloc (below_step (unhide HBR) hb2) (.cells #[.int .i64 (needE e).op, .int .i64 (needE e).n, .int .i64 (needE e).v.k, .int .i64 (needE e).v.n, .string (needE e).v.s, .slice a1 0 cap1] 26)) hb4; obtain ⟨⟨z0, z1, z2, z3, z4, z5⟩, f0, f1, f2, f3, f4, f5⟩ := (unhide HZR).later hE4; rw [Ex.val_open]; clear hK4))
      refine bodyPost_ret (v := (g (nodeG g e)).val a2 c2) (by simp [results, Tryz.results23, go_sem, Ex.val, *]) rfl ⟨a2, c2, rfl, ?_, ?_⟩
      · exact (((unhide HK4).on ((((((Kept.of_low _ _ _ _ (by omega)).trans (Kept.of_low _ _ _ _ (by omega))).trans (Kept.of_low _ _ _ _ (by omega))).trans (Kept.of_low _ _ _ _ (by omega))).trans (Kept.of_low _ _ _ _ (by omega))).trans (Kept.of_low _ _ _ _ (by omega)))).more (by omega))
      · exact put6 (below_step (unhide HBA) hE4) (by omega) _ _ _ _ _ _
  · have hpos : 0 < L0.length := by cases L0 with | nil => exact absurd rfl h0 | cons _ _ => exact Nat.zero_lt_succ _
    obtain ⟨gb, rfl, hgb1, hgb2⟩ := hO1.some hpos
    have HI0 : Hid (MInv g L0 wa.heap.size gb L0.length cap1 w1 0 w1) := ⟨L0, hO1, rfl, fun _ _ => rfl, ⟨fun _ _ => False, fun i _ _ h => absurd h (Nat.not_lt_zero _), fun _ _ h => h.elim, fun _ _ _ _ h => h.elim⟩, Below.refl _ _⟩
    clear hO1 h0
    go_loopw [14] (fun i wr => ∃ k : Nat, k ≤ L0.length ∧ i = .int .i64 (k : Int) ∧ Hid (MInv g L0 wa.heap.size gb L0.length cap1 w1 k wr)) (fun i _ => L0.length - (intOf i).toNat)
    case atStart => exact ⟨0, Nat.zero_le _, rfl, HI0⟩
    case round =>
      obtain ⟨k, hk, rfl, HI⟩ := hrel
      have hbr := (unhide HI).below
      have hba := (unhide HB1).trans hbr
      have hsr : wa.heap.size ≤ wr.heap.size := hba.size
      have hgr : gb < wr.heap.size := Nat.lt_of_lt_of_le hgb2 hbr.size
      by_cases hlt : k < L0.length
      · have h9 : (k : Int) < (L0.length : Int) := by omega
        obtain ⟨q0, hq0⟩ : ∃ q0, L0[k]? = some q0 := ⟨_, List.getElem?_eq_getElem hlt⟩
        obtain ⟨d0, d1, d2, d3, d4, d5⟩ := (unhide HI).load hq0
        have hx : e.args[k]? = some q0.1 := by rw [← unhide HL0, List.getElem?_map, hq0]; rfl
        have hbw := below_alloc (below_step (unhide HBA) hba) (.cells (sh q0).toArray 26)
        have HC := hide (unhide HIH k q0.1 hx q0.2.1 q0.2.2 (wr.alloc (.cells (sh q0).toArray 26)) (Ex.all_later _ (unhide HL1 q0 (List.mem_of_getElem? hq0)) (below_alloc hba _)) ((unhide HBY).later hbw))
        have HMAY := hide (fun (W : World) (hW : Below wr.heap.size wr W) => (unhide HI).may hW hq0)
        have HST := hide (fun (W : World) (q : Nd) (lo : Nat) (hW : Below wr.heap.size wr W) => (unhide HI).step (w2 := W) (q := q) (lo := lo) hW hq0)
        have HBL := hide (below_alloc (Below.refl _ wr) (.cells (sh q0).toArray 26))
        unfold sh at HC HBL
        rw [Ex.val_open] at HC
        clear hx hbw hba hbr HI
        obtain ⟨qe, qa, qc⟩ := q0
        simp only at HC HBL d0 d1 d2 d3 d4 d5
        go_wp2_with (go_at_call 23; refine (unhide HC).mono ?_; rintro r w3 ⟨a2, c2, rfl, hK3, hb3⟩; have hbr3 := below_step (unhide HBL) hb3; obtain ⟨⟨m0, m1, m2, m3, m4, m5⟩, f0, f1, f2, f3, f4, f5⟩ := unhide HMAY _ hbr3; have HN3 := hide (unhide HST _ (madeE g qe, a2, c2) _ hbr3 rfl hK3 (by rw [show (wr.alloc (.cells #[.int .i64 qe.op, .int .i64 qe.n, .int .i64 qe.v.k, .int .i64 qe.v.n, .string qe.v.s, .slice qa qe.args.length qc] 26)).heap.size = wr.heap.size + 1 by simp [go_sem]]; omega) hgr hgb1 hsr); rw [Ex.val_open]; clear d0 d1 d2 d3 d4 d5)
        exact ⟨⟨k + 1, by omega, by go_num, HN3⟩, by simp [intOf]; omega⟩
      · have h9 : ¬ (k : Int) < (L0.length : Int) := by omega
        obtain rfl : k = L0.length := by omega
        have hDN := (unhide HI).done (lo := wa.heap.size) hgb1 (Nat.le_refl _)
        clear hbr HI
        have HDN : Hid (ExK wa.heap.size wr (some ⟨gb, 0, none⟩) cap1 (L0.map fun q => madeE g q.1)) := hDN
        obtain ⟨s0, s1, s2, s3, s4, s5⟩ := (unhide HSX).later hba
        have HNE := hide (needed_any e a c wr)
        have HBR := hide hba
        rw [Ex.val_open] at HNE
        clear HIH HL0 HL1 hba
        go_wp2_with (first
          | (go_at_call 43; refine (unhide HNE).mono ?_; rintro r w2 ⟨rfl, hb2⟩; have hBW := below_alloc (below_step (below_step (unhide HBA) (unhide HBR)) hb2) (.cells #[.int .i64 (needE e).op, .int .i64 (needE e).n, .int .i64 (needE e).v.k, .int .i64 (needE e).v.n, .string (needE e).v.s, .slice (some ⟨gb, 0, none⟩) L0.length cap1] 26); have HFN := hide (unhide HF _ wa.heap.size (nodeG g e) (some ⟨gb, 0, none⟩) cap1 hBW (below_alloc (below_step (unhide HBR) hb2) _).size (unhide HP) (by rw [unhide HNA]; exact (unhide HDN).on (Kept.of_below _ _ (below_alloc hb2 _)))); rw [unhide HND] at HFN; rw [Ex.val_open]; clear hBW)
          | (refine (unhide HFN).mono ?_; rintro r w4 ⟨a2, c2, rfl, hK4, hb4⟩; have HK4 := hide hK4; have hE4 := below_step (below_alloc (below_step (unhide HBR) hb2) (.cells #[.int .i64 (needE e).op, .int .i64 (needE e).n, .int .i64 (needE e).v.k, .int .i64 (needE e).v.n, .string (needE e).v.s, .slice (some ⟨gb, 0, none⟩) L0.length cap1] 26)) hb4; obtain ⟨⟨z0, z1, z2, z3, z4, z5⟩, f0, f1, f2, f3, f4, f5⟩ := (unhide HZR).later hE4; rw [Ex.val_open]; clear hK4))
        refine bodyPost_ret (v := (g (nodeG g e)).val a2 c2) (by simp [results, Tryz.results23, go_sem, Ex.val, *]) rfl ⟨a2, c2, rfl, ?_, ?_⟩
        · exact (((unhide HK4).on ((((((Kept.of_low _ _ _ _ (by omega)).trans (Kept.of_low _ _ _ _ (by omega))).trans (Kept.of_low _ _ _ _ (by omega))).trans (Kept.of_low _ _ _ _ (by omega))).trans (Kept.of_low _ _ _ _ (by omega))).trans (Kept.of_low _ _ _ _ (by omega)))).more (by omega))
        · exact put6 (below_step (unhide HBA) hE4) (by omega) _ _ _ _ _ _
end Go.Proofs.YtmagpdblacgneaaGreat

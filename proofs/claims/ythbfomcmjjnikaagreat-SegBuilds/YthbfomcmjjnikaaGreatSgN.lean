import Derived.Test.YthbfomcmjjnikaaGreatSgL
set_option linter.unusedSimpArgs false
set_option linter.unusedVariables false
namespace Go.Proofs.YthbfomcmjjnikaaGreat
open Go.RowKit Go.Sort

set_option maxRecDepth 100000 in
set_option maxHeartbeats 1000000 in
theorem kindsOK_any (kinds : List Int) (ak : Option Addr) (ck : Nat) (w : World) (hl : kinds.length ≤ 140737488355328) (hak : LisAt w ak (kinds.map (Value.int .i64))) :
    Calls Tryz.prog 30 #[.slice ak kinds.length ck] w fun e w' => e = .returned (.bool (decide (1 ≤ kinds.length) && decide (kinds.length ≤ 32) && !kinds.any noKB)) ∧ w' = w := by
  by_cases h1 : kinds.length < 1
  · have i1 : (kinds.length : Int) < 1 := by omega
    have hr : (decide (1 ≤ kinds.length) && decide (kinds.length ≤ 32) && !kinds.any noKB) = false := by simp; omega
    rw [hr]
    clear hr
    go_enter Tryz.func30, Tryz.ntmps30
    go_wp2
    go_ret
    exact ⟨rfl, rfl⟩
  · have i1 : ¬ (kinds.length : Int) < 1 := by omega
    by_cases h2 : 32 < kinds.length
    · have i2 : (32 : Int) < (kinds.length : Int) := by omega
      have hr : (decide (1 ≤ kinds.length) && decide (kinds.length ≤ 32) && !kinds.any noKB) = false := by simp; omega
      rw [hr]
      clear hr
      go_enter Tryz.func30, Tryz.ntmps30
      go_wp2
      go_ret
      exact ⟨rfl, rfl⟩
    · have i2 : ¬ (32 : Int) < (kinds.length : Int) := by omega
      have hr : (decide (1 ≤ kinds.length) && decide (kinds.length ≤ 32) && !kinds.any noKB) = !kinds.any noKB := by
        rw [decide_eq_true (by omega), decide_eq_true (by omega)]; rfl
      rw [hr]
      have HAK := hide hak
      clear hr hak
      obtain ⟨R, hR⟩ : ∃ R, (!kinds.any noKB) = R := ⟨_, rfl⟩
      rw [hR]
      have HR := hide hR
      clear hR
      go_enter Tryz.func30, Tryz.ntmps30
      go_wp2
      go_loopw [15] (fun s wr => ∃ k : Nat, k ≤ kinds.length ∧ s = .int .i64 (k : Int) ∧ Hid (∀ i x, i < k → kinds[i]? = some x → noKB x = false) ∧ wr = w) (fun s _ => kinds.length - (intOf s).toNat)
      case atStart => exact ⟨0, Nat.zero_le _, rfl, fun i x hi => absurd hi (by omega), rfl⟩
      case round =>
        obtain ⟨k, hk, rfl, HN, rfl⟩ := hrel
        by_cases h3 : k < kinds.length
        · have i3 : (k : Int) < (kinds.length : Int) := by omega
          obtain ⟨kd, hkd⟩ : ∃ kd, kinds[k]? = some kd := ⟨_, List.getElem?_eq_getElem h3⟩
          obtain ⟨vb, vo, rfl, q0⟩ := lis_get (unhide HAK) (show (kinds.map (Value.int .i64))[k]? = some (.int .i64 kd) by simp [hkd])
          cases hp : noKB kd
          · have HE : Hid (∀ i y, i < k + 1 → kinds[i]? = some y → noKB y = false) := fun i y hi hy => by
              by_cases e : i = k
              · subst e; rw [hkd] at hy; injection hy with hy; rw [← hy]; exact hp
              · exact unhide HN i y (by omega) hy
            unfold noKB at hp
            clear HN hkd
            cases hp1 : (kd != 1)
            · go_wp2
              exact ⟨⟨k + 1, by omega, by go_num, HE, trivial⟩, by simp [intOf]; omega⟩
            · rw [hp1] at hp
              have hp2 : (kd != 2) = false := by simpa using hp
              clear hp
              go_wp2
              exact ⟨⟨k + 1, by omega, by go_num, HE, trivial⟩, by simp [intOf]; omega⟩
          · have HE : Hid (R = false) := by
              show _ = _
              rw [← unhide HR, List.any_eq_true.2 ⟨kd, List.mem_of_getElem? hkd, hp⟩]
              rfl
            unfold noKB at hp
            rw [Bool.and_eq_true] at hp
            obtain ⟨hp1, hp2⟩ := hp
            clear HN hkd
            go_wp2
            go_ret
            exact ⟨by rw [unhide HE]; rfl, rfl⟩
        · have i3 : ¬ (k : Int) < (kinds.length : Int) := by omega
          have HE : Hid (R = true) := by
            show _ = _
            rw [← unhide HR, List.any_eq_false.2 fun x hx => by
              obtain ⟨i, hi, e⟩ := List.mem_iff_getElem.1 hx
              rw [unhide HN i x (by omega) (by rw [List.getElem?_eq_getElem hi, e])]
              simp]
            rfl
          clear HN
          go_wp2
          go_ret
          exact ⟨by rw [unhide HE]; rfl, rfl⟩

/-- The cells of a column. -/
def c4 (c : Vc × Sl) : List Value := [.int .i64 c.1.k, .slice c.2.a1 c.1.nl.length c.2.c1, .slice c.2.a2 c.1.ns.length c.2.c2, .slice c.2.a3 c.1.ss.length c.2.c3]
/-- A list of columns of the call's own: what is done to its block alone touches none of them. -/
structure OwnC (w0 w : World) (v : Value) (Cs : List (Vc × Sl)) : Prop where
  own : w.ownsRow w0.heap.size 49 4 v Cs.length (Cs.flatMap c4)
  saf : ∀ c ∈ Cs, ∀ w', w.grownBy w' v.ownBlock → VecAt w' c.1 c.2
  bel : Below w0.heap.size w0 w
theorem OwnC.nil (w : World) : OwnC w w (.slice none 0 0) [] := ⟨World.ownsRow_nil _ _ _ _, fun c hc => by simp at hc, Below.refl _ _⟩
theorem grown_of_below {w w' w2 : World} {row : Option Nat} (hb : Below w.heap.size w w') (hg : w'.grownBy w2 row) : w.grownBy w2 row :=
  ⟨hg.os.trans hb.os, hg.tape.trans hb.tape, hg.output.trans hb.output, Nat.le_trans hb.size hg.size, fun i hi hne => (hg.block i (Nat.lt_of_lt_of_le hi hb.size) hne).trans (hb.block i hi)⟩
theorem OwnC.later {w0 w w' : World} {v : Value} {Cs : List (Vc × Sl)} (h : OwnC w0 w v Cs) (hb : Below w.heap.size w w') : OwnC w0 w' v Cs :=
  ⟨own_later h.own hb, fun c hc w2 hg => h.saf c hc w2 (grown_of_below hb hg), below_step h.bel hb⟩
theorem vec_grown {w w' : World} {X : Vc} {p : Sl} {g n : Nat} (h : VecAt w X p) (hf : Fresh n p) (hg : g < n) {row : Option Nat} (hr : ∀ b, row = some b → b = g) (hgr : w.grownBy w' row) : VecAt w' X p := by
  have key : ∀ (a : Option Addr) (cs : List Value), (∀ ad, a = some ad → n ≤ ad.block) → LisAt w a cs → LisAt w' a cs := fun a cs ha hl => by
    rcases hl with e | ⟨b, off, e, hl⟩
    · exact .inl e
    · refine .inr ⟨b, off, e, fun i x hx => ?_⟩
      have hc := hl i x hx
      have hlt : b < w.heap.size := World.block_lt_of_cell? _ _ hc
      have hb := ha _ e
      rw [← hc]
      exact World.cell?_of_block (a := ⟨b, off + i, none⟩) (hgr.block b hlt (fun e' => by have := hr b e'.symm; simp at hb; omega))
  exact ⟨key _ _ hf.1 h.1, key _ _ hf.2.1 h.2.1, key _ _ hf.2.2 h.2.2⟩
theorem flat4_at : ∀ {Cs : List (Vc × Sl)} {i : Nat} {c : Vc × Sl} {j : Nat}, Cs[i]? = some c → j < 4 → (Cs.flatMap c4)[i * 4 + j]? = (c4 c)[j]?
  | [], _, _, _, h, _ => by simp at h
  | d :: Cs, 0, c, j, h, hj => by
    simp at h
    subst h
    rw [List.flatMap_cons, List.getElem?_append_left (by simp [c4]; omega)]
    simp
  | d :: Cs, i + 1, c, j, h, hj => by
    rw [List.flatMap_cons, List.getElem?_append_right (by simp [c4]; omega)]
    have e : (i + 1) * 4 + j - (c4 d).length = i * 4 + j := by simp [c4]; omega
    rw [e]
    exact flat4_at (by simpa using h) hj
theorem OwnC.cols {w0 w : World} {v : Value} {Cs : List (Vc × Sl)} (h : OwnC w0 w v Cs) : ∃ a c, v = .slice a Cs.length c ∧ ColsAt w a Cs := by
  have hv : ∀ c ∈ Cs, VecAt w c.1 c.2 := fun c hc => h.saf c hc w ⟨rfl, rfl, rfl, Nat.le_refl _, fun _ _ _ => rfl⟩
  rcases h.own.2 with ⟨rfl, h0⟩ | ⟨g, cap, cur, rfl, hb, hg, _⟩
  · have e : Cs = [] := List.eq_nil_of_length_eq_zero h0
    subst e
    exact ⟨none, 0, rfl, .inl rfl, hv⟩
  · refine ⟨some ⟨g, 0, none⟩, cap, rfl, .inr ⟨g, 0, rfl, fun i c hc => ?_⟩, hv⟩
    have hcell := World.ownsRow.cells h.own (g := g) rfl
    have hat : ∀ j, j < 4 → (Cs.flatMap c4)[i * 4 + j]? = (c4 c)[j]? := fun j hj => flat4_at hc hj
    have hadd : ∀ k, (⟨g, 0, none⟩ : Addr).add k = ⟨g, k, none⟩ := fun k => by unfold Addr.add; split <;> simp_all
    have h0 := hcell (i * 4 + 0) _ (hat 0 (by omega))
    have h1 := hcell (i * 4 + 1) _ (hat 1 (by omega))
    have h2 := hcell (i * 4 + 2) _ (hat 2 (by omega))
    have h3 := hcell (i * 4 + 3) _ (hat 3 (by omega))
    rw [hadd] at h0 h1 h2 h3
    rw [Nat.zero_add]
    exact ⟨h0, h1, h2, h3⟩
end Go.Proofs.YthbfomcmjjnikaaGreat
set_option linter.unusedSimpArgs false
set_option linter.unusedVariables false
namespace Go.Proofs.YthbfomcmjjnikaaGreat
open Go.RowKit Go.Sort

theorem cells4_new (w : World) (c : Vc × Sl) : ∀ j u, (c4 c)[j]? = some u → (w.alloc (.cells #[.int .i64 c.1.k, .slice c.2.a1 c.1.nl.length c.2.c1, .slice c.2.a2 c.1.ns.length c.2.c2, .slice c.2.a3 c.1.ss.length c.2.c3] 49)).cell? ((⟨w.heap.size, 0, none⟩ : Addr).add j) = some u := by
  intro j u hu
  have hadd : (⟨w.heap.size, 0, none⟩ : Addr).add j = ⟨w.heap.size, j, none⟩ := by unfold Addr.add; split <;> simp_all
  rw [hadd, cell_of_row _ _ j _ 49 (0, 0) (heap_alloc_last w _)]
  simpa [c4] using hu
theorem c4_one (c : Vc × Sl) : ∀ u ∈ c4 c, u.oneCell' = true := by
  intro u hu
  simp [c4] at hu
  rcases hu with rfl | rfl | rfl | rfl <;> rfl
theorem flat4_len (Cs : List (Vc × Sl)) : (Cs.flatMap c4).length = Cs.length * 4 := by
  induction Cs with
  | nil => rfl
  | cons c Cs ih => rw [List.flatMap_cons, List.length_append, ih, List.length_cons]; simp [c4]; omega
/-- A column is appended. -/
theorem OwnC.app {w0 w w1 : World} {v v1 : Value} {Cs : List (Vc × Sl)} {c : Vc × Sl} {o : Obj} {n : Nat} (h : OwnC w0 w v Cs) (hv : VecAt w c.1 c.2) (hf : Fresh n c.2) (hn : ∀ g, v.ownBlock = some g → g < n)
    (hown : w1.ownsRow w0.heap.size 49 4 v1 (Cs.length + 1) (Cs.flatMap c4 ++ c4 c)) (hgr : (w.alloc o).grownBy w1 v.ownBlock) (hat : v1.ownBlock = v.ownBlock ∨ v1.ownBlock = some (w.alloc o).heap.size) : OwnC w0 w1 v1 (Cs ++ [c]) := by
  have hA : Below w.heap.size w (w.alloc o) := below_alloc (Below.refl _ _) _
  have hlv : ∀ g, v.ownBlock = some g → g < w.heap.size := fun g hg => (World.ownsRow.lt h.own g hg).2
  have comp : ∀ w2, w1.grownBy w2 v1.ownBlock → w.grownBy w2 v.ownBlock := fun w2 hg2 => by
    have h1 := grown_of_below hA hgr
    refine ⟨hg2.os.trans h1.os, hg2.tape.trans h1.tape, hg2.output.trans h1.output, Nat.le_trans h1.size hg2.size, fun i hi hne => ?_⟩
    rw [hg2.block i (Nat.lt_of_lt_of_le hi h1.size) ?_, h1.block i hi hne]
    rcases hat with e | e
    · rw [e]; exact hne
    · rw [e]; intro e2; cases e2; simp at hi; omega
  refine ⟨?_, fun d hd w2 hg2 => ?_, ?_⟩
  · rw [List.length_append, List.flatMap_append]
    simpa using hown
  · rcases List.mem_append.1 hd with m | m
    · exact h.saf d m w2 (comp w2 hg2)
    · simp at m
      subst m
      cases hb : v.ownBlock with
      | none =>
        have g2 := comp w2 hg2
        rw [hb] at g2
        exact hv.later ⟨g2.os, g2.tape, g2.output, g2.size, fun k hk => g2.block k hk (by simp)⟩
      | some g => exact vec_grown hv hf (hn g hb) (row := some g) (fun b e => by cases e; rfl) (hb ▸ comp w2 hg2)
  · exact h.bel.trans ((hA.mono h.bel.size).grown hgr (by simp; exact Nat.le_succ_of_le h.bel.size) (fun k e => (World.ownsRow.lt h.own k e).1))

/-- What columnsOf answers. -/
def CoAns (kinds : List Int) (rs : List (List Val)) (w' : World) (e : Ending) : Prop := ∃ (a : Option Addr) (c : Nat) (Cs : List (Vc × Sl)), e = .returned (.slice a kinds.length c) ∧ Cs.length = kinds.length ∧ (∀ (i : Nat) (d : Vc × Sl), Cs[i]? = some d → d.1 = (colX kinds rs i).1) ∧ ColsAt w' a Cs
set_option maxHeartbeats 8000000 in
set_option maxRecDepth 100000 in
theorem columnsOf_any (kinds : List Int) (ak : Option Addr) (ck : Nat) (rs : List (List Val)) (ar : Option Addr) (cr : Nat) (w : World) (hk : kinds.length ≤ 32) (hr : rs.length ≤ 4096) (hlr : ∀ r ∈ rs, r.length = kinds.length)
    (hak : LisAt w ak (kinds.map (Value.int .i64))) (har : RowsAt w ar rs) :
    Calls Tryz.prog 33 #[.slice ak kinds.length ck, .slice ar rs.length cr] w fun e w' => CoAns kinds rs w' e ∧ Below w.heap.size w w' := by
  obtain ⟨i4, hi4, z40, z41, z42⟩ := info_parts Tryz.info59
  obtain ⟨j4, hj4, y40, y41, y42⟩ := info_parts Tryz.info49'
  have HAK := hide hak
  have HAR := hide har
  have HLR := hide hlr
  clear hak har hlr
  go_enter Tryz.func33, Tryz.ntmps33
  go_wp2
  go_loopw [5, 15] (fun v s wr => ∃ (k : Nat) (Cs : List (Vc × Sl)), s = .int .i64 (k : Int) ∧ k ≤ kinds.length ∧ Cs.length = k ∧ Hid (OwnC w wr v Cs) ∧ Hid (∀ (i : Nat) (d : Vc × Sl), Cs[i]? = some d → d.1 = (colX kinds rs i).1)) (fun _ s _ => kinds.length - (intOf s).toNat)
  case atStart => exact ⟨0, [], rfl, by omega, rfl, OwnC.nil w, fun i d hd => by simp at hd⟩
  case round =>
    obtain ⟨k, Cs, rfl, hkk, hcl, S, HX⟩ := hrel
    by_cases h7 : k < kinds.length
    · have i7 : (k : Int) < (kinds.length : Int) := by omega
      obtain ⟨kd, hkd⟩ : ∃ kd, kinds[k]? = some kd := ⟨_, List.getElem?_eq_getElem h7⟩
      obtain ⟨vb, vo, rfl, q0⟩ := lis_get ((unhide HAK).later (unhide S).bel) (show (kinds.map (Value.int .i64))[k]? = some (.int .i64 kd) by simp [hkd])
      have hcx : colX kinds rs k = fromV kd (colL rs k) := by simp [colX, hkd]
      have hl : (colL rs k).length = rs.length := by simp [colL]
      have HHL := hide hl
      have HF : Hid (∀ (a' : Option Addr) (c' : Nat) (W : World), RowAt W a' (colL rs k) → Calls Tryz.prog 17 #[.int .i64 kd, .slice a' (colL rs k).length c'] W fun e w' => ∃ p er, e = .returned (.tuple #[.agg #[.int .i64 (colX kinds rs k).1.k, .slice p.a1 (colX kinds rs k).1.nl.length p.c1, .slice p.a2 (colX kinds rs k).1.ns.length p.c2, .slice p.a3 (colX kinds rs k).1.ss.length p.c3], .int .i64 er]) ∧ VecAt w' (colX kinds rs k).1 p ∧ Fresh W.heap.size p ∧ Below W.heap.size W w') := fun a' c' W hW => by
        refine (rfrom_any a' c' kd (colL rs k) W (by rw [hl]; omega) hW).mono ?_
        rintro e w' ⟨p, rfl, h⟩
        rw [hcx]
        exact ⟨p, _, rfl, h⟩
      clear hcx hkd hl
      generalize hY : (colX kinds rs k).1 = X at HF
      have HY := hide hY
      clear hY
      go_wp2
      obtain ⟨W1, rfl⟩ : ∃ W1, W1 = wr := ⟨_, rfl⟩
      go_loopw [8, 22] (fun l s wr => ∃ j : Nat, j ≤ rs.length ∧ s = .int .i64 (j : Int) ∧ OwnV wr W1.heap.size l ((colL rs k).take j) ∧ Below W1.heap.size W1 wr) (fun _ s _ => rs.length - (intOf s).toNat)
      case atStart => exact ⟨0, Nat.zero_le _, rfl, World.ownsRow_nil _ _ _ _, Below.refl _ _⟩
      case round =>
        obtain ⟨j, hj, rfl, ho, hb⟩ := hrel
        by_cases h8 : j < rs.length
        · have i8 : (j : Int) < (rs.length : Int) := by omega
          obtain ⟨r, hx⟩ : ∃ r, rs[j]? = some r := ⟨_, List.getElem?_eq_getElem h8⟩
          obtain ⟨rb, ro, rfl, ra, rc, c0, hra⟩ := rows_get ((unhide HAR).later (below_step (unhide S).bel hb)) hx
          have hir : k < r.length := by rw [unhide HLR r (List.mem_of_getElem? hx)]; exact h7
          obtain ⟨x, hxi⟩ : ∃ x, r[k]? = some x := ⟨_, List.getElem?_eq_getElem hir⟩
          obtain ⟨rb2, ro2, rfl, d0, d1, d2⟩ := row_get hra hxi
          have i2 : (k : Int) < (r.length : Int) := by omega
          have HXX := hide (take_one (colL_at hx hxi))
          have hlen : ((colL rs k).take j).length = j := by rw [List.length_take, unhide HHL]; omega
          have HLEN := hide hlen
          have HO := hide ho
          have HB := hide hb
          clear hx hxi hra hlen ho hb
          go_wp2_with (at_builtin; refine wpList_append_own_at _ rfl (.tmp 26) (.tmp 31) 37 rfl W1.heap.size 59 i4 (.agg #[.int .i64 0, .int .i64 0, .string ⟨#[]⟩]) 3 32 Tryz.underlying37 hi4 z40 z41 z42 rfl (by decide) _ _ _ rfl (World.ownsRow.alloc (unhide HO) _) ⟨wr.heap.size, 0, none⟩ 1 1 (c3 x) rfl rfl (cells3_new wr x) (c3_one _) (by rw [unhide HLEN]; unfold maxLen; omega) (by rw [unhide HLEN]; omega) (by have := (unhide HB).size; simp; omega) ?_; intro v1 w3 hown1 hgrow1 _ hat1; have ho3 := ownV_app hown1; have hgr : (wr.alloc (.cells #[.int .i64 x.k, .int .i64 x.n, .string x.s] 59)).grownBy w3 u8.ownBlock := hgrow1; clear hown1 hgrow1 hat1)
          exact ⟨⟨j + 1, by omega, by go_num, ownV_len ho3 (unhide HXX).symm, own_below (unhide HB) (unhide HO) (Nat.le_refl _) hgr⟩, by simp [intOf]; omega⟩
        · have i8 : ¬ (j : Int) < (rs.length : Int) := by omega
          have hjl : (colL rs k).take j = colL rs k := List.take_of_length_le (by rw [unhide HHL]; omega)
          rw [hjl] at ho
          obtain ⟨a', c', rfl, hra⟩ := ownV_row ho
          have S2 := hide ((unhide S).later hb)
          clear hjl ho
          have HC4 : Hid (∀ (w4 : World) (p : Sl) (j : Nat) (u : Value), (c4 (X, p))[j]? = some u → ((w4.alloc (.cells #[.int .i64 X.k, .slice p.a1 X.nl.length p.c1, .slice p.a2 X.ns.length p.c2, .slice p.a3 X.ss.length p.c3] 49)).alloc (.cells #[.int .i64 X.k, .slice p.a1 X.nl.length p.c1, .slice p.a2 X.ns.length p.c2, .slice p.a3 X.ss.length p.c3] 49)).cell? ((⟨w4.heap.size + 1, 0, none⟩ : Addr).add j) = some u) := fun w4 p j u hu => by
            have := cells4_new (w4.alloc (.cells #[.int .i64 X.k, .slice p.a1 X.nl.length p.c1, .slice p.a2 X.ns.length p.c2, .slice p.a3 X.ss.length p.c3] 49)) (X, p) j u hu
            rwa [show (w4.alloc (.cells #[.int .i64 X.k, .slice p.a1 X.nl.length p.c1, .slice p.a2 X.ns.length p.c2, .slice p.a3 X.ss.length p.c3] 49)).heap.size = w4.heap.size + 1 by simp] at this
          have HCL := hide hcl
          clear hcl
          go_wp2_with (first
            | (go_at_call 17; refine (unhide HF a' c' wr hra).mono ?_; rintro _ w4 ⟨p, er, rfl, hv4, hf4, hb4⟩; have S4 := hide (((unhide S2).later hb4).later (below_alloc (Below.refl _ _) (.cells #[.int .i64 X.k, .slice p.a1 X.nl.length p.c1, .slice p.a2 X.ns.length p.c2, .slice p.a3 X.ss.length p.c3] 49))))
            | (at_builtin; refine wpList_append_own_at _ rfl (.tmp 40) (.tmp 42) 66 rfl w.heap.size 49 j4 (.agg #[.int .i64 0, .slice none 0 0, .slice none 0 0, .slice none 0 0]) 4 80 Tryz.underlying66 hj4 y40 y41 y42 rfl (by decide) _ _ _ rfl (World.ownsRow.alloc (unhide S4).own _) ⟨w4.heap.size + 1, 0, none⟩ 1 1 (c4 (X, p)) rfl rfl (unhide HC4 w4 p) (c4_one _) (by rw [unhide HCL]; unfold maxLen; omega) (by rw [unhide HCL]; omega) (by have := (unhide S4).bel.size; simp at this ⊢; omega) ?_; intro v5 w5 hown5 hgrow5 _ hat5))
          have S5 := (unhide S4).app (c := (X, p)) (n := wr.heap.size) (hv4.later (below_alloc (Below.refl _ _) _)) hf4 (fun g hg => (World.ownsRow.lt (unhide S2).own g hg).2) hown5 hgrow5 hat5
          refine ⟨⟨k + 1, Cs ++ [(X, p)], by go_num, by omega, by simp [unhide HCL], S5, fun i d hd => ?_⟩, by simp [intOf]; omega⟩
          by_cases hi : i < k
          · rw [List.getElem?_append_left (by rw [unhide HCL]; exact hi)] at hd
            exact unhide HX i d hd
          · have e2 : i = k := by
              have := (List.getElem?_eq_some_iff.1 hd).1
              simp [unhide HCL] at this
              omega
            subst e2
            rw [List.getElem?_append_right (by rw [unhide HCL]; omega), unhide HCL] at hd
            simp at hd
            subst hd
            exact (unhide HY).symm
    · have i7 : ¬ (k : Int) < (kinds.length : Int) := by omega
      have hkn : k = kinds.length := by omega
      obtain ⟨a, c, e, hco⟩ := (unhide S).cols
      rw [hcl, hkn] at e
      have HCL : Hid (Cs.length = kinds.length) := by show _ = _; omega
      clear hcl hkn
      subst e
      go_wp2
      go_ret
      exact ⟨⟨a, c, Cs, rfl, unhide HCL, unhide HX, hco⟩, (unhide S).bel⟩
end Go.Proofs.YthbfomcmjjnikaaGreat
set_option linter.unusedSimpArgs false
set_option linter.unusedVariables false
namespace Go.Proofs.YthbfomcmjjnikaaGreat
open Go.RowKit Go.Sort

def okKB (kinds : List Int) : Bool := decide (1 ≤ kinds.length) && decide (kinds.length ≤ 32) && !kinds.any noKB
set_option maxRecDepth 100000 in
theorem rbuild_a (kinds : List Int) (ak : Option Addr) (ck : Nat) (rs : List (List Val)) (ar : Option Addr) (cr : Nat) (w : World) (hl : kinds.length ≤ 140737488355328) (hak : LisAt w ak (kinds.map (Value.int .i64))) (hk : okKB kinds = false) :
    Calls Tryz.prog 6 #[.slice ak kinds.length ck, .slice ar rs.length cr] w fun e w' => e = .returned (.tuple #[.string ⟨#[]⟩, .int .i64 1]) ∧ Below w.heap.size w w' := by
  have HK := kindsOK_any kinds ak ck w hl hak
  unfold okKB at hk
  rw [hk] at HK
  have HK2 := hide HK
  clear HK
  go_enter Tryz.func6, Tryz.ntmps6
  go_wp2_with (first | (go_at_call 30; refine (unhide HK2).mono ?_; rintro _ _ ⟨rfl, rfl⟩))
  exact bodyPost_ret (v := .tuple #[.string ⟨#[]⟩, .int .i64 1]) (by simp [results, Tryz.results6, go_sem]) rfl ⟨rfl, Below.refl _ _⟩

def lgV (x : Val) : Bool := decide (1000 < ((cleanV x).s.size : Int))
def odV (kinds : List Int) (i : Nat) (x : Val) : Bool := decide (i < kinds.length) && ((cleanV x).k != 0 && (cleanV x).k != kinds.getD i 0)
def odR (kinds : List Int) (r : List Val) (j : Nat) : Bool := (List.range j).any fun i => odV kinds i (r.getD i .null)
def odA (kinds : List Int) (r : List Val) : Bool := ((r.length : Int) != (kinds.length : Int)) || odR kinds r r.length
theorem any_take {α : Type} {l : List α} {k : Nat} {x : α} (p : α → Bool) (h : l[k]? = some x) : (l.take (k + 1)).any p = ((l.take k).any p || p x) := by
  obtain ⟨h1, rfl⟩ := List.getElem?_eq_some_iff.1 h
  rw [List.take_succ_eq_append_getElem h1, List.any_append]
  simp only [List.any_cons, List.any_nil, Bool.or_false]
theorem odR_succ (kinds : List Int) (r : List Val) (j : Nat) {x : Val} (h : r[j]? = some x) : odR kinds r (j + 1) = (odR kinds r j || odV kinds j x) := by
  unfold odR
  rw [List.range_succ, List.any_append]
  simp [h]

theorem enter_with {P : Program} {c : Code} {Q : Exit → Act → World → Prop} {a : Act} {w : World} (F : World → Prop) (h : F w) (k : ∀ W, F W → c.wp P Q a W) : c.wp P Q a w := k w h
/-- One value is looked at: what comes of the two marks. -/
structure Marks (kinds : List Int) (rs : List (List Val)) (j : Nat) (lo od : Bool) : Prop where
  lo : lo = (decide (4096 < (rs.length : Int)) || (rs.take j).any fun r => r.any lgV)
  od : od = (rs.take j).any (odA kinds)

def loM (rs : List (List Val)) : Bool := decide (4096 < (rs.length : Int)) || rs.any fun r => r.any lgV
def odM (kinds : List Int) (rs : List (List Val)) : Bool := rs.any (odA kinds)
/-- What the document's side says of a column. -/
structure RLaw (K : Vc → ByteArray → Prop) (zf : Vc → ByteArray) (X : Vc) : Prop where
  pk : ∀ p W s, VecAt W X p → K X s → Calls Tryz.prog 34 #[vecV X p] W fun e w' => e = .returned (.tuple #[.string s, .int .i64 0]) ∧ Below W.heap.size W w'
  sp : ∃ (L G : Val) (N : Nat), zf X = zoneB L G N ∧ L.s.size ≤ 1000000 ∧ G.s.size ≤ 1000000 ∧ ∀ p W, VecAt W X p → Calls Tryz.prog 35 #[vecV X p] W fun e w' => e = .returned (.tuple #[L.v, G.v, .int .i64 (N : Int)]) ∧ Below W.heap.size W w'
end Go.Proofs.YthbfomcmjjnikaaGreat

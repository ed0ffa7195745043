import Derived.Test.YtcbenpodohjbiaaGreatSqN
import Derived.Test.YtcbenpodohjbiaaGreatSqI
set_option linter.unusedSimpArgs false
set_option linter.unusedVariables false
set_option maxRecDepth 100000
namespace Go.Proofs.YtcbenpodohjbiaaGreat
open Go.RowKit Go.Sort

/-- What the document's SortOf answers. -/
def SortOfP (w : World) (ks : List (Int × Bool)) (bu : Int) (rs : List (List Val)) (e : Ending) (w' : World) : Prop := ∃ (v : Value) (f : Int) (W : List (List Val)), e = .returned (.tuple #[v, .int .i64 f]) ∧ Below w.heap.size w w' ∧ ((okB ks bu = false ∧ f = 1 ∧ v = .slice none 0 0) ∨ (okB ks bu = true ∧ f = 0 ∧ Lst w' v W ∧ W.Perm (rs.map cleanR) ∧ W.Pairwise (fun x y => ordG ks x y ≤ 0)))
/-- Keys that nothing changes. -/
def KeysC (w : World) (a : Option Addr) (ks : List (Int × Bool)) : Prop := KeysAt w a ks ∧ ∀ b off, a = some ⟨b, off, none⟩ → ks ≠ [] → Tg 58 w b
theorem KeysC.ky {F : Nat → Prop} {w w' : World} {a : Option Addr} {ks : List (Int × Bool)} (h : KeysC w a ks) (hk : Ky F w w') : KeysC w' a ks := by
  obtain ⟨h1, h2⟩ := h
  by_cases hks : ks = []
  · exact ⟨.inl hks, fun b off e hne => absurd hks hne⟩
  · refine ⟨?_, fun b off e hne => (h2 b off e hne).ky (.inr (.inr rfl)) hk⟩
    rcases h1 with h1 | ⟨b, off, e, h1⟩
    · exact .inl h1
    · have ec : ∀ o, w'.cell? ⟨b, o, none⟩ = w.cell? ⟨b, o, none⟩ := fun o => World.cell?_of_block (w := w) (a := ⟨b, o, none⟩) (hk.rows b 58 (.inr (.inr rfl)) (h2 b off e hks))
      exact .inr ⟨b, off, e, fun i x hx => by rw [ec, ec]; exact h1 i x hx⟩
theorem KeysC.later {w w' : World} {a : Option Addr} {ks : List (Int × Bool)} (h : KeysC w a ks) (hb : Below w.heap.size w w') : KeysC w' a ks := h.ky (F := fun _ => False) (Ky.of_below hb)
/-- The two lists that are sorted in step. -/
structure TwoL (wM wr : World) (v19 v14 : Value) (n : Nat) (X : List (List Val)) : Prop where
  l : Lst wr v19 X
  g : Lst wr v14 (X.map (padR n))
  ky : Ky (fun k => v19.ownBlock = some k ∨ v14.ownBlock = some k) wM wr
theorem TwoL.later {wM wr w' : World} {v19 v14 : Value} {n : Nat} {X : List (List Val)} (h : TwoL wM wr v19 v14 n X) (hb : Below wr.heap.size wr w') : TwoL wM w' v19 v14 n X := ⟨h.l.later hb, h.g.later hb, h.ky.trans (Ky.of_below hb) (Nw.refl _ _)⟩
/-- What is sorted so far. -/
structure InsO (ks : List (Int × Bool)) (A P : List (List Val)) (i : Nat) : Prop where
  pm : P.Perm (A.take i)
  st : P.Pairwise fun x y => ordG ks x y ≤ 0
/-- Where a row is on its way down. -/
structure InsI (ks : List (Int × Bool)) (A P pre mid : List (List Val)) (x : List Val) (i k : Nat) : Prop where
  sp : P = pre ++ mid
  lp : pre.length = k
  ax : A[i]? = some x
  md : ∀ z ∈ mid, keysV ks x z < 0
theorem InsI.len {ks : List (Int × Bool)} {A P pre mid : List (List Val)} {x : List Val} {i k : Nat} (h : InsI ks A P pre mid x i k) (ho : InsO ks A P i) : pre.length + mid.length = i ∧ i < A.length := by
  have h1 := ho.pm.length_eq
  have h2 := (List.getElem?_eq_some_iff.1 h.ax).1
  rw [h.sp, List.length_append, List.length_take] at h1
  omega
theorem rows_le_of {A : List (List Val)} {i : Nat} {x : List Val} (hA : RisesR A) (hx : A[i]? = some x) : ∀ p ∈ A.take i, rowsV p x ≤ 0 := fun p hp => by
  obtain ⟨j, hj⟩ := List.getElem?_of_mem hp
  have hji : j < i := by have := (List.getElem?_eq_some_iff.1 hj).1; rw [List.length_take] at this; omega
  rw [List.getElem?_take, if_pos hji] at hj
  obtain ⟨h1, rfl⟩ := List.getElem?_eq_some_iff.1 hj
  obtain ⟨h2, rfl⟩ := List.getElem?_eq_some_iff.1 hx
  exact List.pairwise_iff_getElem.1 hA j i h1 h2 hji
/-- The row has come to its place. -/
theorem InsI.done {ks : List (Int × Bool)} {A P pre mid : List (List Val)} {x : List Val} {i k : Nat} (h : InsI ks A P pre mid x i k) (ho : InsO ks A P i) (hA : RisesR A) (hl : ∀ q, pre.getLast? = some q → ¬ keysV ks x q < 0) : InsO ks A (pre ++ x :: mid) (i + 1) := by
  have hs := ho.st
  rw [h.sp] at hs
  refine ⟨?_, ins_srt hs h.md (fun p hp => rows_le_of hA h.ax p (ho.pm.mem_iff.1 (by rw [h.sp]; simp [hp]))) hl⟩
  rw [List.take_add_one, h.ax]
  have h1 := ho.pm
  rw [h.sp] at h1
  refine List.perm_middle.trans ?_
  refine (List.Perm.cons x h1).trans ?_
  exact (List.perm_append_singleton x _).symm
/-- The row goes one place down. -/
theorem InsI.down {ks : List (Int × Bool)} {A P pre mid : List (List Val)} {x q : List Val} {i k : Nat} (h : InsI ks A P (pre ++ [q]) mid x i (k + 1)) (hq : keysV ks x q < 0) : InsI ks A P pre (q :: mid) x i k :=
  ⟨by rw [h.sp, List.append_assoc]; rfl, by have := h.lp; rw [List.length_append] at this; simpa using this, h.ax, fun z hz => by
    rcases List.mem_cons.1 hz with e | e
    · subst e; exact hq
    · exact h.md z e⟩
theorem swap_list {pre rest : List (List Val)} {q x : List Val} {k : Nat} (hk : pre.length = k) : ((pre ++ q :: x :: rest).set (k + 1) q).set k x = pre ++ x :: q :: rest := by
  subst hk
  rw [List.set_append_right _ _ (by omega), show pre.length + 1 - pre.length = 1 by omega, List.set_append_right _ _ (by omega), Nat.sub_self]
  rfl

set_option maxHeartbeats 8000000 in
/-- The document's SortOf (9). -/
theorem sortOf_any (rs : List (List Val)) (ks : List (Int × Bool)) (aR aK : Option Addr) (cR cK : Nat) (bu : Int) (w : World) (hn : rs.length ≤ 1048576) (hr : ∀ r ∈ rs, r.length ≤ 1048576) (ha : RowsT w aR rs) (hkl : ks.length ≤ 1048576) (hK : KeysAt w aK ks) :
    Calls Tryz.prog 9 #[.slice aR rs.length cR, .slice aK ks.length cK, .int .i64 bu] w fun e w' => SortOfP w ks bu rs e w' := by
  have hC22 := keysOK_any ks aK cK w hkl hK
  have hC23 := fun W => budgetOK_any bu W
  by_cases hkb : keysB ks = true
  · rw [hkb] at hC22
    by_cases hbu : (decide (4 ≤ bu) && decide (bu ≤ 65536)) = true
    · rw [hbu] at hC23
      have hok : okB ks bu = true := by unfold okB; rw [hkb, hbu]; rfl
      have HOK := hide hok
      have HC22 := hide hC22
      have HC23 := hide hC23
      have HA := hide ha
      have HR := hide hr
      have HK := hide hK
      have HNN := hide (keysB_nn hkb)
      obtain ⟨n, hnw⟩ : ∃ n, widR rs = n := ⟨_, rfl⟩
      have hnM : n ≤ 1048576 := by rw [← hnw]; exact widR_max hr
      have HNW := hide hnw
      have HKL := hide hkl
      clear hC22 hC23 ha hr hK hok hbu hkb hnw
      go_enter Tryz.func9, Tryz.ntmps9
      go_wp2_with (first
        | (go_at_call 22; refine (unhide HC22).mono ?_; rintro _ w1 ⟨rfl, hb1⟩; have HB1 := hide hb1; clear hb1)
        | (go_at_call 23; refine (unhide HC23 _).mono ?_; rintro _ w9 ⟨rfl, hw9⟩; rw [hw9]; clear hw9)
        | fail)
      go_loopw [8, 32] (fun s8 s32 wr => w1 = wr ∧ ∃ k : Nat, k ≤ rs.length ∧ s32 = .int .i64 (k : Int) ∧ s8 = .int .i64 ((widR (rs.take k) : Nat) : Int)) (fun _ s32 _ => rs.length - (intOf s32).toNat)
      case atStart => exact ⟨rfl, 0, Nat.zero_le _, rfl, rfl⟩
      case round =>
        obtain ⟨rfl, k, hk, rfl, rfl⟩ := hrel
        by_cases hlt : k < rs.length
        · have h9 : (k : Int) < (rs.length : Int) := by omega
          obtain ⟨r, hx⟩ : ∃ r, rs[k]? = some r := ⟨_, List.getElem?_eq_getElem hlt⟩
          have hsn : widR (rs.take (k + 1)) = max (widR (rs.take k)) r.length := by rw [List.take_add_one, hx]; exact widR_snoc _ _
          rcases (unhide HA).later (unhide HB1) with e | ⟨bR, oR, e, hR⟩
          · rw [e] at hx; cases hx
          subst e
          obtain ⟨ra, rc, c0, hra⟩ := hR k r hx
          have HSN := hide hsn
          obtain ⟨d, hd⟩ : ∃ d, widR (rs.take k) = d := ⟨_, rfl⟩
          rw [hd] at HSN ⊢
          clear hx hR hra hsn hd
          go_wp2
          go_roundw
          case rel => exact ⟨trivial, k + 1, by omega, by go_num, by rw [unhide HSN]; congr 1; omega⟩
          case measure => simp [intOf]; omega
        · have h9 : ¬ (k : Int) < (rs.length : Int) := by omega
          have hke : k = rs.length := by omega
          have e8 : widR (rs.take k) = n := by rw [hke, List.take_length]; exact unhide HNW
          rw [e8]
          have HO0 : Hid (OwnK w1 w1.heap.size (.slice none 0 0) (hereK (ks.take 0) n) ∧ Below w1.heap.size w1 w1) := ⟨World.ownsRow_nil _ _ _ _, Below.refl _ _⟩
          clear hke e8 hk
          go_wp2_with fail
          go_loopw [11, 43] (fun s11 s43 wr => ∃ k : Nat, k ≤ ks.length ∧ s43 = .int .i64 (k : Int) ∧ Hid (OwnK wr w1.heap.size s11 (hereK (ks.take k) n) ∧ Below w1.heap.size w1 wr)) (fun _ s43 _ => ks.length - (intOf s43).toNat)
          case atStart => exact ⟨0, Nat.zero_le _, rfl, HO0⟩
          case round =>
            obtain ⟨k, hk, rfl, HI⟩ := hrel
            by_cases hlt : k < ks.length
            · have h8 : (k : Int) < (ks.length : Int) := by omega
              obtain ⟨x, hx⟩ : ∃ x, ks[k]? = some x := ⟨_, List.getElem?_eq_getElem hlt⟩
              have hsn : hereK (ks.take (k + 1)) n = hereK (ks.take k) n ++ if x.1 < (n : Int) then [x] else [] := by rw [List.take_add_one, hx]; exact hereK_snoc _ _ _
              rcases ((unhide HK).later (unhide HB1)).later (unhide HI).2 with e | ⟨bK, oK, e, hKc⟩
              · rw [e] at hx; cases hx
              subst e
              obtain ⟨c0, c1⟩ := hKc k x hx
              obtain ⟨x1, x2⟩ := x
              simp only at c0 c1 hsn
              by_cases hx1 : x1 < (n : Int)
              · rw [if_pos hx1] at hsn
                have hbW1 : Below wr.heap.size wr (wr.alloc (.cells #[.int .i64 x1, .bool x2] 58)) := below_alloc (Below.refl _ _) _
                have hb2 := below_alloc hbW1 (.cells #[.int .i64 x1, .bool x2] 58)
                have HO2 := hide (OwnK.later (unhide HI).1 hb2)
                have HKE : Hid (KeysAt ((wr.alloc (.cells #[.int .i64 x1, .bool x2] 58)).alloc (.cells #[.int .i64 x1, .bool x2] 58)) (some ⟨wr.heap.size + 1, 0, none⟩) [(x1, x2)]) := .inr ⟨wr.heap.size + 1, 0, rfl, fun i y hy => by
                  have ee : wr.heap.size + 1 = (wr.alloc (.cells #[.int .i64 x1, .bool x2] 58)).heap.size := by simp
                  rw [ee]
                  match i, hy with
                  | 0, hy => simp at hy; subst hy; simp [go_sem]
                  | i + 1, hy => simp at hy⟩
                have HLL : Hid ((hereK (ks.take k) n).length + [(x1, x2)].length ≤ 4000000) := by
                  show _ ≤ _
                  have h1 : (hereK (ks.take k) n).length ≤ (ks.take k).length := List.length_filter_le _ _
                  rw [List.length_take] at h1
                  have := unhide HKL
                  simp only [List.length_cons, List.length_nil]
                  omega
                have HSZ : Hid (w1.heap.size ≤ ((wr.alloc (.cells #[.int .i64 x1, .bool x2] 58)).alloc (.cells #[.int .i64 x1, .bool x2] 58)).heap.size) := by show _ ≤ _; have := (unhide HI).2.size; have := hb2.size; omega
                have HB2 := hide hb2
                have HSN := hide hsn
                clear hsn hx hKc hb2 hbW1
                go_wp2_with (first
                  | (at_builtin; refine wpList_push_keys ((wr.alloc (.cells #[.int .i64 x1, .bool x2] 58)).alloc (.cells #[.int .i64 x1, .bool x2] 58)) rfl (.tmp 51) (.tmp 53) rfl w1.heap.size u11 (hereK (ks.take k) n) [(x1, x2)] ⟨wr.heap.size + 1, 0, none⟩ 1 rfl (unhide HO2) rfl (unhide HKE) (unhide HLL) (unhide HSZ) ?_; intro v4 w4 hO4 hB4; have HO4 := hide hO4; have HB4 := hide hB4; clear hO4 hB4))
                go_roundw
                case rel => exact ⟨k + 1, by omega, by go_num, by rw [unhide HSN]; exact unhide HO4, (below_step (unhide HI).2 (unhide HB2)).trans (unhide HB4)⟩
                case measure => simp [intOf]; omega
              · rw [if_neg hx1, List.append_nil] at hsn
                have hbW1 := below_alloc (Below.refl _ wr) (.cells #[.int .i64 x1, .bool x2] 58)
                have HBW := hide hbW1
                have HSN := hide hsn
                clear hsn hx hKc hbW1
                go_wp2
                go_roundw
                case rel => exact ⟨k + 1, by omega, by go_num, by rw [unhide HSN]; exact OwnK.later (unhide HI).1 (unhide HBW), below_step (unhide HI).2 (unhide HBW)⟩
                case measure => simp [intOf]; omega
            · have h8 : ¬ (k : Int) < (ks.length : Int) := by omega
              have hke : k = ks.length := by omega
              have hO := (unhide HI).1
              rw [hke, List.take_length] at hO
              obtain ⟨KH, hhk⟩ : ∃ KH, hereK ks n = KH := ⟨_, rfl⟩
              rw [hhk] at hO
              obtain ⟨a11, c11, e11, hKA0, hKA1⟩ := OwnK.keys hO
              have hKA : KeysC wr a11 KH := ⟨hKA0, hKA1⟩
              subst e11
              have hbA : Below w.heap.size w wr := below_step (unhide HB1) (unhide HI).2
              have HBA := hide hbA
              have HKA := hide hKA
              have HHK := hide hhk
              have HSo := hide (rsorted_any rs aR cR wr hn (unhide HR) ((unhide HA).later hbA))
              have hhl : KH.length ≤ 1048576 := by rw [← hhk]; have : (hereK ks n).length ≤ ks.length := List.length_filter_le _ _; omega
              obtain ⟨A, hA⟩ : ∃ A, sortedP rs = A := ⟨_, rfl⟩
              have hAl : ∀ x ∈ A, x.length ≤ n := fun x hx => by
                rw [← hA] at hx
                obtain ⟨z, hz, e⟩ := List.mem_map.1 ((sortedP_perm rs).mem_iff.1 hx)
                rw [← e, ← unhide HNW]
                unfold cleanR
                rw [List.length_map]
                exact widR_le z hz
              have HAl := hide hAl
              have HA1 := hide hA
              obtain ⟨N, hN⟩ : ∃ N, A.length = N := ⟨_, rfl⟩
              have hNb : N ≤ 1048576 := by rw [← hN, ← hA, (sortedP_perm rs).length_eq, List.length_map]; exact hn
              have HN := hide hN
              have hcv : ∀ (W : World) (base : Nat) (v : Value) (L : List El), OwnR W base v L → L.map El.r = sortedP rs → (∀ x ∈ L, RowV W v.ownBlock x ∧ x.r.length ≤ maxLen) → Lst W v A := fun W base v L q1 q2 q3 => by
                have := ownR_lst q1 q3 (fun x hx => by
                  have h1 : x.r ∈ A := by rw [← hA, ← q2]; exact List.mem_map.2 ⟨x, hx, rfl⟩
                  have := hAl _ h1
                  omega)
                rw [q2, hA] at this
                exact this
              have HCV := hide hcv
              rename World => wA
              clear hO hKA hKA0 hKA1 hbA hke hk hhk hA hAl hN hcv HI
              go_upto_region 18 with (first
                | (go_at_call 24; refine (unhide HSo).mono ?_; rintro e w2 ⟨v2, L2, rfl, o1, o2, o3, o4⟩; have hL2 := unhide HCV w2 _ v2 L2 o1 o2 o3; obtain ⟨a2, c2, e2⟩ := hL2.form; rw [unhide HN] at e2; subst e2; have HL2 := hide hL2; have HB2 := hide o4; clear hL2 o1 o2 o3 o4)
                | fail)
              have HI0 : Hid (Lst w2 (.slice none 0 0) ((A.take 0).map (padR n)) ∧ (∀ g, (Value.slice none 0 0).ownBlock = some g → w2.heap.size ≤ g) ∧ Below w2.heap.size w2 w2) := ⟨Lst.nil _, fun g e => (by cases e), Below.refl _ _⟩
              obtain ⟨i4, hi4, z40, z41, z42⟩ := info_parts info23
              go_wp2_with fail
              go_loopw [14, 59] (fun s14 s59 wr => ∃ k : Nat, k ≤ N ∧ s59 = .int .i64 (k : Int) ∧ Hid (Lst wr s14 ((A.take k).map (padR n)) ∧ (∀ g, s14.ownBlock = some g → w2.heap.size ≤ g) ∧ Below w2.heap.size w2 wr)) (fun _ s59 _ => N - (intOf s59).toNat)
              case atStart => exact ⟨0, Nat.zero_le _, rfl, HI0⟩
              case round =>
                obtain ⟨k, hk, rfl, HI⟩ := hrel
                by_cases hlt : k < N
                · have h7 : (k : Int) < (N : Int) := by omega
                  obtain ⟨x, hx⟩ : ∃ x, A[k]? = some x := ⟨_, List.getElem?_eq_getElem (by rw [unhide HN]; exact hlt)⟩
                  have hxn : x.length ≤ n := unhide HAl x (List.mem_of_getElem? hx)
                  obtain ⟨g, c', ra, rc, ev, c0, _, hrc, hrl⟩ := ((unhide HL2).later (unhide HI).2.2).get hx
                  rw [unhide HN] at ev
                  injection ev with ev1 _ ev3
                  subst ev1 ev3
                  obtain ⟨ys, hys⟩ : ∃ ys, padR n x = ys := ⟨_, rfl⟩
                  have hyl : ys.length = n := by rw [← hys]; exact padR_len hxn
                  have hya : ∀ i, i < n → ys[i]? = some (x.getD i .null) := fun i hi => by rw [← hys]; exact padR_at hi hxn
                  have HF0 := hide (FilN.start wr ys (by omega))
                  rw [hyl] at HF0
                  have HYS := hide hys
                  have HYL := hide hyl
                  have HYA := hide hya
                  have HX := hide hx
                  have HRC := hide hrc
                  rename World => w3
                  clear hx hrc hys hyl hya HI0
                  go_wp2_with (first
                    | (at_make; refine wpList_make_rows _ rfl (.tmp 63) (.tmp 63) 70 rfl 73 i4 _ Tryz.underlying70 hi4 z40 3 z41 .i64 .i64 n rfl rfl (by rw [z42]; omega) (by omega) ?_)
                    | fail)
                  go_loopw [67] (fun s67 wx => ∃ q : Nat, q ≤ n ∧ s67 = .int .i64 (q : Int) ∧ Hid (FilN w3 wx ys q)) (fun s67 _ => n - (intOf s67).toNat)
                  case atStart => exact ⟨0, Nat.zero_le _, rfl, HF0⟩
                  case round =>
                    obtain ⟨q, hq, rfl, HF⟩ := hrel
                    by_cases hlt2 : q < n
                    · have h6 : (q : Int) < (n : Int) := by omega
                      by_cases hqx : q < x.length
                      · have h5 : (q : Int) < (x.length : Int) := by omega
                        obtain ⟨y, hy⟩ : ∃ y, x[q]? = some y := ⟨_, List.getElem?_eq_getElem hqx⟩
                        have hyq : ys[q]? = some y := by rw [unhide HYA q hlt2, List.getD_eq_getElem?_getD, hy]; rfl
                        obtain ⟨b, off, ea, d0, d1, d2⟩ := ((unhide HRC).later (unhide HF).2).at.lo hy
                        subst ea
                        have hO := (unhide HF).1
                        rw [unhide HYL] at hO
                        obtain ⟨y', p0, p1, p2, q0, q1, q2⟩ := hO.three hlt2
                        have HY := hide hyq
                        clear hy hyq hO
                        go_wp2
                        go_roundw
                        case rel => exact ⟨q + 1, by omega, by go_num, (unhide HF).step (unhide HY)⟩
                        case measure => simp [intOf]; omega
                      · have h5 : ¬ (q : Int) < (x.length : Int) := by omega
                        have hyq : ys[q]? = some Val.null := by rw [unhide HYA q hlt2, List.getD_eq_getElem?_getD, List.getElem?_eq_none (by omega)]; rfl
                        have HY := hide hyq
                        clear hyq
                        go_wp2
                        go_roundw
                        case rel => exact ⟨q + 1, by omega, by go_num, (unhide HF).skip (unhide HY)⟩
                        case measure => simp [intOf]; omega
                    · have h6 : ¬ (q : Int) < (n : Int) := by omega
                      have hqe : q = ys.length := by have := unhide HYL; omega
                      have hFd : Rw wr (.slice (some ⟨w3.heap.size, 0, none⟩) n n) ys := by
                        have h1 := unhide HF
                        rw [hqe] at h1
                        have := h1.done (by have := unhide HYL; omega)
                        rw [unhide HYL] at this
                        exact this
                      have hbx : Below w3.heap.size w3 wr := (unhide HF).2
                      have hba := below_alloc (Below.refl _ wr) (.cells #[.slice (some ⟨w3.heap.size, 0, none⟩) n n] 70)
                      have HL4 := hide (((unhide HI).1.later hbx).later hba)
                      have HR4 := hide (hFd.later hba)
                      have HLL : Hid (((A.take k).map (padR n)).length + 1 ≤ 4398046511104) := by
                        show _ ≤ _
                        rw [List.length_map, List.length_take]; omega
                      have HBX := hide hbx
                      have HBA4 := hide hba
                      clear hqe hFd hbx hba HF HF0
                      go_wp2_with (first
                        | (at_builtin; refine wpList_push_lst (wr.alloc (.cells #[.slice (some ⟨w3.heap.size, 0, none⟩) n n] 70)) rfl (.tmp 82) (.tmp 84) rfl u14 ((A.take k).map (padR n)) ys rfl (unhide HL4) wr.heap.size (.slice (some ⟨w3.heap.size, 0, none⟩) n n) rfl (by simp [go_sem]) (unhide HR4) (unhide HLL) ?_; intro v5 w5 hL5 hg5 hK5; have HL5 := hide hL5; have HG5 := hide hg5; have HK5 := hide hK5; clear hL5 hg5 hK5))
                      go_roundw
                      case rel =>
                        have hI := unhide HI
                        have s3 := hI.2.2.size
                        have sx := (unhide HBX).size
                        have sa := (unhide HBA4).size
                        refine ⟨k + 1, by omega, by go_num, ?_, fun g' e => ?_, ?_⟩
                        · rw [List.take_add_one, unhide HX, List.map_append]
                          show Lst w5 v5 (_ ++ [padR n x])
                          rw [unhide HYS]
                          exact unhide HL5
                        · rcases (unhide HG5).2 with r | ⟨r, r1, r2⟩
                          · exact hI.2.1 g' (by rw [← r]; exact e)
                          · rw [r1] at e; injection e with e; omega
                        · exact (below_step (below_step hI.2.2 (unhide HBX)) (unhide HBA4)).trans ((unhide HK5).below (fun g' e => hI.2.1 g' e) (by omega))
                      case measure => simp [intOf]; omega
                · have h7 : ¬ (k : Int) < (N : Int) := by omega
                  have hke : k = N := by omega
                  obtain ⟨hL3, hg3, hb3⟩ := unhide HI
                  rw [hke, ← unhide HN, List.take_length] at hL3
                  have hbw : Below w.heap.size w wr := below_step (below_step (unhide HBA) (unhide HB2)) hb3
                  have HSo2 := hide (rsorted_any rs aR cR wr hn (unhide HR) ((unhide HA).later hbw))
                  have HL3 := hide hL3
                  have HBW := hide hbw
                  have HKA3 := hide (((unhide HKA).later (unhide HB2)).later hb3)
                  have HG3 : Hid (∀ g, u14.ownBlock = some g → w.heap.size ≤ g) := fun g e => by
                    have h1 := hg3 g e
                    have h2 := (unhide HBA).size
                    have h3 := (unhide HB2).size
                    omega
                  rename World => wL
                  clear hke hL3 hg3 hb3 hbw HI HI0 HSo HKA HL2 HB2 HBA hk
                  go_upto_region 30 with (first
                    | (go_at_call 24; refine (unhide HSo2).mono ?_; rintro e w6 ⟨v6, L6, rfl, o1, o2, o3, o4⟩; have hL6 := unhide HCV w6 _ v6 L6 o1 o2 o3; obtain ⟨a6, c6, e6⟩ := hL6.form; rw [unhide HN] at e6; subst e6; have hg6 : ∀ g, (Value.slice a6 N c6).ownBlock = some g → wL.heap.size + 1 ≤ g := (fun g e => (World.ownsRow.lt o1 g e).1); have HL6 := hide hL6; have HB6 := hide o4; have HG6 := hide hg6; clear hL6 hg6 o1 o2 o3 o4)
                    | fail)
                  obtain ⟨a14, c14, e14⟩ := (unhide HL3).form
                  rw [List.length_map, unhide HN] at e14
                  subst e14
                  have hap : ∀ g, (Value.slice a6 N c6).ownBlock = some g → (Value.slice a14 N c14).ownBlock = some g → False := fun g e1 e2 => by
                    have h1 := unhide HG6 g e1
                    have h2 := ((unhide HL3).tg e2).lt
                    omega
                  have HAP := hide hap
                  have HT0 : Hid (InsO ks A (A.take 1) 1 ∧ TwoL w6 w6 (.slice a6 N c6) (.slice a14 N c14) n (A.take 1 ++ A.drop 1)) := by
                    refine ⟨⟨List.Perm.refl _, ?_⟩, ?_⟩
                    · cases A with
                      | nil => simp
                      | cons z A => simp
                    · rw [List.take_append_drop]
                      exact ⟨unhide HL6, (unhide HL3).later (unhide HB6), Ky.refl _ _⟩
                  have HKA6 := hide ((unhide HKA3).later (unhide HB6))
                  have hAr : RisesR A := by rw [← unhide HA1]; exact sortedP_rises rs
                  have HAR := hide hAr
                  have HBW6 := hide (below_step (unhide HBW) (unhide HB6))
                  clear hap hAr HSo2 HKA3
                  go_wp2_with fail
                  go_loopw [20] (fun s20 wr => ∃ (i : Nat) (P : List (List Val)), 1 ≤ i ∧ i ≤ N + 1 ∧ s20 = .int .i64 (i : Int) ∧ Hid (InsO ks A P i ∧ TwoL w6 wr (.slice a6 N c6) (.slice a14 N c14) n (P ++ A.drop i))) (fun s20 _ => N + 1 - (intOf s20).toNat)
                  case atStart => exact ⟨1, A.take 1, Nat.le_refl _, by omega, rfl, HT0⟩
                  case round =>
                    obtain ⟨i, P, hi1, hi2, rfl, HI⟩ := hrel
                    by_cases hlt : i < N
                    · have h7 : (i : Int) < (N : Int) := by omega
                      obtain ⟨x, hx⟩ : ∃ x, A[i]? = some x := ⟨_, List.getElem?_eq_getElem (by rw [unhide HN]; exact hlt)⟩
                      have hdr : A.drop i = x :: A.drop (i + 1) := by
                        obtain ⟨h1, h2⟩ := List.getElem?_eq_some_iff.1 hx
                        rw [← h2]
                        exact List.drop_eq_getElem_cons h1
                      have hPl : P.length = i := by rw [(unhide HI).1.pm.length_eq, List.length_take, unhide HN]; omega
                      have hxn : x.length ≤ n := unhide HAl x (List.mem_of_getElem? hx)
                      have HJ0 : Hid (InsI ks A P P [] x i i ∧ TwoL w6 wr (.slice a6 N c6) (.slice a14 N c14) n (P ++ x :: [] ++ A.drop (i + 1))) := by
                        refine ⟨⟨by simp, hPl, hx, fun z hz => by simp at hz⟩, ?_⟩
                        have := (unhide HI).2
                        rw [hdr] at this
                        simpa using this
                      have HXN := hide hxn
                      obtain ⟨z0, hz0⟩ : ∃ z0, (P ++ A.drop i)[0]? = some z0 := ⟨_, List.getElem?_eq_getElem (by rw [List.length_append, hPl]; omega)⟩
                      obtain ⟨g1, ea6⟩ : ∃ g, a6 = some ⟨g, 0, none⟩ := by
                        obtain ⟨g, c', _, _, ev, _⟩ := (unhide HI).2.l.get hz0
                        injection ev with ev1 _ _
                        exact ⟨g, ev1⟩
                      obtain ⟨g2, ea14⟩ : ∃ g, a14 = some ⟨g, 0, none⟩ := by
                        obtain ⟨g, c', _, _, ev, _⟩ := (unhide HI).2.g.get (i := 0) (r := padR n z0) (by rw [List.getElem?_map, hz0]; rfl)
                        injection ev with ev1 _ _
                        exact ⟨g, ev1⟩
                      subst ea6 ea14
                      clear hz0
                      rename World => wO
                      clear hx hdr hPl HT0
                      go_wp2_with fail
                      go_loopw [21] (fun s21 wx => ∃ (k : Nat) (pre mid : List (List Val)), k ≤ i ∧ s21 = .int .i64 (k : Int) ∧ Hid (InsI ks A P pre mid x i k ∧ TwoL w6 wx (.slice (some ⟨g1, 0, none⟩) N c6) (.slice (some ⟨g2, 0, none⟩) N c14) n (pre ++ x :: mid ++ A.drop (i + 1)))) (fun s21 _ => (intOf s21).toNat)
                      case atStart => exact ⟨i, P, [], Nat.le_refl _, rfl, HJ0⟩
                      case round =>
                        obtain ⟨k, pre, mid, hki, rfl, HJ⟩ := hrel
                        go_upto_region 34 with fail
                        go_cut [111] (fun s111 wx => ∃ bb : Bool, s111 = .bool bb ∧ Hid ((bb = true → 0 < k ∧ ∀ q, pre.getLast? = some q → keysV ks x q < 0) ∧ (bb = false → ∀ q, pre.getLast? = some q → ¬ keysV ks x q < 0) ∧ Below wr.heap.size wr wx))
                        case first =>
                          have hlp := (unhide HJ).1.lp
                          by_cases hk0 : k = 0
                          · have hpre : pre = [] := List.eq_nil_of_length_eq_zero (by omega)
                            have HPRE := hide hpre
                            subst hk0
                            clear hlp hpre
                            go_region
                            all_goals (go_wp2; go_meet)
                            all_goals exact ⟨false, rfl, fun e => (by cases e), fun _ q e => by rw [unhide HPRE] at e; simp at e, (Below.refl _ _).drew⟩
                          · obtain ⟨k1, hk1⟩ : ∃ k1, k = k1 + 1 := ⟨k - 1, by omega⟩
                            obtain ⟨pr, q, hpq⟩ : ∃ pr q, pre = pr ++ [q] := by
                              have hne : pre ≠ [] := fun e => by rw [e] at hlp; simp at hlp; omega
                              exact ⟨pre.dropLast, pre.getLast hne, (List.dropLast_concat_getLast hne).symm⟩
                            have hpl : pr.length = k1 := by rw [hpq, List.length_append] at hlp; simp at hlp; omega
                            have hT := (unhide HJ).2
                            rw [hpq] at hT
                            have gx : ((pr ++ [q] ++ x :: mid ++ A.drop (i + 1)).map (padR n))[k]? = some (padR n x) := by
                              rw [List.getElem?_map, List.append_assoc, List.getElem?_append_right (by simp; omega)]
                              have : k - (pr ++ [q]).length = 0 := by simp; omega
                              rw [this]; rfl
                            have gq : ((pr ++ [q] ++ x :: mid ++ A.drop (i + 1)).map (padR n))[k1]? = some (padR n q) := by
                              rw [List.getElem?_map, List.append_assoc, List.append_assoc, List.getElem?_append_right (by omega)]
                              have : k1 - pr.length = 0 := by omega
                              rw [this]; rfl
                            have hqA : q ∈ A := by
                              have h1 : q ∈ P := by rw [(unhide HJ).1.sp, hpq]; simp
                              exact List.mem_of_mem_take ((unhide HI).1.pm.mem_iff.1 h1)
                            have hqn : q.length ≤ n := unhide HAl q hqA
                            obtain ⟨g, c', rx, cx, ev, d0, _, hrx, hrxl⟩ := hT.g.get gx
                            obtain ⟨g', c'', rq, cq, ev', d1, _, hrq, hrql⟩ := hT.g.get gq
                            injection ev with ev1 ev2 ev3
                            injection ev' with ev1' ev2' ev3'
                            clear ev2 ev3 ev2' ev3'
                            have hgg : g2 = g := by injection ev1 with z; injection z
                            have hgg' : g2 = g' := by injection ev1' with z; injection z
                            subst hgg hgg'
                            have hok2 : keysV KH (padR n x) (padR n q) = keysV ks x q := by rw [keysV_pad, ← unhide HHK]; exact keysV_here (unhide HXN) hqn ks (unhide HNN)
                            have HCB : Hid (∀ W, Below wr.heap.size wr W → Calls Tryz.prog 25 #[.slice rx (padR n x).length cx, .slice rq (padR n q).length cq, .slice a11 KH.length c11] W fun e w' => e = .returned (.int .i64 (keysV ks x q)) ∧ Below W.heap.size W w') := fun W hW => by
                              rw [← hok2]
                              refine rbyKeys_any KH a11 rx rq c11 cx cq (padR n x) (padR n q) W hhl (by unfold maxLen; omega) (by unfold maxLen; omega) (fun z hz => ?_) (((unhide HKA6).ky hT.ky).later hW).1 (hrx.later hW).at (hrq.later hW).at
                              rw [← unhide HHK] at hz
                              obtain ⟨z1, z2⟩ := List.mem_filter.1 hz
                              rw [padR_len (unhide HXN), padR_len hqn]
                              exact ⟨unhide HNN z z1, by simpa using z2, by simpa using z2⟩
                            have lx : (padR n x).length = n := padR_len (unhide HXN)
                            have lq : (padR n q).length = n := padR_len hqn
                            rw [lx] at d0 HCB
                            rw [lq] at d1 HCB
                            have i1 : (0 : Int) < (k : Int) := by omega
                            have i2 : (k : Int) < (N : Int) := by omega
                            have i3 : (k1 : Int) < (N : Int) := by omega
                            have ewk : IntKind.i64.wrap ((k : Int) - 1) = (k1 : Int) := by rw [IntWalk.i64_in _ (by omega)]; omega
                            have hlast : pre.getLast? = some q := by rw [hpq]; simp
                            have HLAST := hide hlast
                            obtain ⟨o, ho⟩ : ∃ o, keysV ks x q = o := ⟨_, rfl⟩
                            rw [ho] at HCB
                            have HO := hide ho
                            have hkN : k ≤ 1048576 := by omega
                            clear hT gx gq hqA hqn ev1 ev1' hok2 lx lq hlast ho hrx hrq hk1 hpq hpl hlp hk0 hrxl hrql
                            have k0 := cell_regrown d0
                            have k2 := cell_regrown d1
                            have i1n : 0 < k := by omega
                            have i2n : k < N := by omega
                            have i3n : k1 < N := by omega
                            have i1b : decide (0 < k) = true := by simpa using i1n
                            clear d0 d1
                            refine wp_region_quiet_below (by kernel_rfl) (by kernel_rfl) ?_
                            repeat (go_big_quiet_step (first
                              | (go_at_call 25; exact Calls.regrown_of (unhide HCB _ (below_regrown _ _ _)))))
                            refine wpQuiet_nil ?_
                            intro w' hw'
                            have hB : Below wr.heap.size wr w' := by obtain ⟨p, rfl⟩ := hw'; exact below_regrown _ _ _
                            clear hw' k0 k2
                            go_wp2
                            go_meet
                            refine ⟨decide (o < 0), rfl, fun e => ⟨by omega, fun z hz => ?_⟩, fun e z hz => ?_, hB⟩
                            · rw [unhide HLAST] at hz
                              injection hz with hz
                              subst hz
                              rw [unhide HO]
                              simpa using e
                            · rw [unhide HLAST] at hz
                              injection hz with hz
                              subst hz
                              rw [unhide HO]
                              simpa using e
                        case rest =>
                          obtain ⟨bb, rfl, HC⟩ := hcut
                          rename World => w8
                          cases bb
                          · go_wp2
                            go_roundw
                            case rel =>
                              obtain ⟨_, hf, hB⟩ := unhide HC
                              exact ⟨i + 1, pre ++ x :: mid, by omega, by omega, by go_num, (unhide HJ).1.done (unhide HI).1 (unhide HAR) (hf rfl), (unhide HJ).2.later hB⟩
                            case measure => simp [intOf]; omega
                          · obtain ⟨ht, _, hB⟩ := unhide HC
                            obtain ⟨hk0, hlq⟩ := ht rfl
                            have hlp := (unhide HJ).1.lp
                            obtain ⟨k1, hk1⟩ : ∃ k1, k = k1 + 1 := ⟨k - 1, by omega⟩
                            obtain ⟨pr, q, hpq⟩ : ∃ pr q, pre = pr ++ [q] := by
                              have hne : pre ≠ [] := fun e => by rw [e] at hlp; simp at hlp; omega
                              exact ⟨pre.dropLast, pre.getLast hne, (List.dropLast_concat_getLast hne).symm⟩
                            have hpl : pr.length = k1 := by rw [hpq, List.length_append] at hlp; simp at hlp; omega
                            have hkq := hlq q (by rw [hpq]; simp)
                            have hJ1 := (unhide HJ).1
                            rw [hpq, hk1] at hJ1
                            have hdown := hJ1.down hkq
                            obtain ⟨D, hD⟩ : ∃ D, mid ++ A.drop (i + 1) = D := ⟨_, rfl⟩
                            have eX : pre ++ x :: mid ++ A.drop (i + 1) = pr ++ q :: x :: D := by rw [hpq, ← hD]; simp
                            have eY : pr ++ x :: (q :: mid) ++ A.drop (i + 1) = pr ++ x :: q :: D := by rw [← hD]; simp
                            have hT := (unhide HJ).2.later hB
                            rw [eX] at hT
                            have gx : (pr ++ q :: x :: D)[k]? = some x := by
                              rw [List.getElem?_append_right (by omega), show k - pr.length = 1 by omega]; rfl
                            have gq : (pr ++ q :: x :: D)[k1]? = some q := by
                              rw [List.getElem?_append_right (by omega), show k1 - pr.length = 0 by omega]; rfl
                            obtain ⟨gA, cA, rx, cx, evA, d0, f0, hrx, hrxl⟩ := hT.l.get gx
                            obtain ⟨gB, cB, rq, cq, evB, d1, f1, hrq, hrql⟩ := hT.l.get gq
                            obtain ⟨gC, cC, px, ex, evC, d2, f2, hpx, hpxl⟩ := hT.g.get (i := k) (r := padR n x) (by rw [List.getElem?_map, gx]; rfl)
                            obtain ⟨gD, cD, pq, eq, evD, d3, f3, hpq', hpql⟩ := hT.g.get (i := k1) (r := padR n q) (by rw [List.getElem?_map, gq]; rfl)
                            have zA : g1 = gA := by injection evA with z _ _; injection z with z; injection z
                            have zB : g1 = gB := by injection evB with z _ _; injection z with z; injection z
                            have zC : g2 = gC := by injection evC with z _ _; injection z with z; injection z
                            have zD : g2 = gD := by injection evD with z _ _; injection z with z; injection z
                            clear evA evB evC evD
                            subst zA zB zC zD
                            have h12 : ¬ g1 = g2 := fun e => unhide HAP g1 rfl (by rw [e]; rfl)
                            have h21 : ¬ g2 = g1 := fun e => h12 e.symm
                            have hkk1 : ¬ k = k1 := by omega
                            have hk1k : ¬ k1 = k := by omega
                            have FIN : Hid (TwoL w6 ((((w8.setCell ⟨g1, k, none⟩ (.slice rq q.length cq)).setCell ⟨g1, k1, none⟩ (.slice rx x.length cx)).drew.setCell ⟨g2, k, none⟩ (.slice pq (padR n q).length eq)).setCell ⟨g2, k1, none⟩ (.slice px (padR n x).length ex)).drew (.slice (some ⟨g1, 0, none⟩) N c6) (.slice (some ⟨g2, 0, none⟩) N c14) n (pr ++ x :: (q :: mid) ++ A.drop (i + 1))) := by
                              rw [eY]
                              have s1 := hT.l.set (j := k) (u := .slice rq q.length cq) (r := q) ⟨rq, cq, rfl, hrq, hrql⟩
                              have s2 := s1.1.set (j := k1) (u := .slice rx x.length cx) (r := x) (Rw.ky ⟨rx, cx, rfl, hrx, hrxl⟩ s1.2)
                              have kA := (s1.2.trans s2.2 (Nw.refl _ _)).drew
                              have hg' := hT.g.ky kA (fun g e => by injection e with e; intro z; exact h21 (e.trans z))
                              have s3 := hg'.set (j := k) (u := .slice pq (padR n q).length eq) (r := padR n q) (Rw.ky ⟨pq, eq, rfl, hpq', hpql⟩ kA)
                              have s4 := s3.1.set (j := k1) (u := .slice px (padR n x).length ex) (r := padR n x) ((Rw.ky ⟨px, ex, rfl, hpx, hpxl⟩ kA).ky s3.2)
                              have kB := (s3.2.trans s4.2 (Nw.refl _ _)).drew
                              have esw : ((pr ++ q :: x :: D).set k q).set k1 x = pr ++ x :: q :: D := by rw [hk1]; exact swap_list hpl
                              have hbd1 : Below (w8.setCell ⟨g1, k, none⟩ (.slice rq q.length cq) |>.setCell ⟨g1, k1, none⟩ (.slice rx x.length cx)).heap.size (w8.setCell ⟨g1, k, none⟩ (.slice rq q.length cq) |>.setCell ⟨g1, k1, none⟩ (.slice rx x.length cx)) ((w8.setCell ⟨g1, k, none⟩ (.slice rq q.length cq)).setCell ⟨g1, k1, none⟩ (.slice rx x.length cx)).drew := (Below.refl _ _).drew
                              refine ⟨?_, ?_, (hT.ky.trans (kA.mono fun g e => by subst e; exact .inl rfl) (Nw.refl _ _)).trans (kB.mono fun g e => by subst e; exact .inr rfl) (Nw.refl _ _)⟩
                              · have := (s2.1.later hbd1).ky kB (fun g e => by injection e with e; intro z; exact h12 (e.trans z))
                                rw [esw] at this
                                exact this
                              · have := s4.1.later ((Below.refl _ _).drew)
                                rw [← List.map_set, ← List.map_set, esw] at this
                                exact this
                            have HDOWN := hide hdown
                            have i2 : (k : Int) < (N : Int) := by omega
                            have i3 : (k1 : Int) < (N : Int) := by omega
                            have ewk : IntKind.i64.wrap ((k : Int) - 1) = (k1 : Int) := by rw [IntWalk.i64_in _ (by omega)]; omega
                            have hk1i : k1 ≤ i := by omega
                            have hk1lt : k1 < k := by omega
                            generalize (padR n x).length = lpx at *
                            generalize (padR n q).length = lpq at *
                            generalize x.length = lx at *
                            generalize q.length = lq at *
                            clear hT gx gq hrx hrq hpx hpq' hrxl hrql hpxl hpql eX eY hD hdown hJ1 hkq hpl hpq hk1 hlp hk0 hlq ht hB
                            go_upto_region 36 with fail
                            go_region
                            go_upto_region 37 with fail
                            go_region
                            go_wp2
                            go_roundw
                            case rel => exact ⟨k1, pr, q :: mid, hk1i, rfl, unhide HDOWN, unhide FIN⟩
                            case measure => simp [intOf]; omega
                    · have h7 : ¬ (i : Int) < (N : Int) := by omega
                      have hdr : A.drop i = [] := List.drop_eq_nil_of_le (by rw [unhide HN]; omega)
                      have htk : A.take i = A := List.take_of_length_le (by rw [unhide HN]; omega)
                      have HDR := hide hdr
                      have HTK := hide htk
                      clear hdr htk
                      go_wp2
                      obtain ⟨hO, hT⟩ := unhide HI
                      rw [unhide HDR, List.append_nil] at hT
                      have hpm := hO.pm
                      rw [unhide HTK, ← unhide HA1] at hpm
                      refine bodyPost_ret (v := .tuple #[.slice a6 N c6, .int .i64 0]) (by simp [results, Tryz.results9, go_sem]) rfl ⟨_, 0, P, rfl, (unhide HBW6).trans (hT.ky.below (fun g e => ?_) (unhide HBW6).size), .inr ⟨unhide HOK, rfl, hT.l, hpm.trans (sortedP_perm rs), hO.st⟩⟩
                      have hbs := (unhide HBW).size
                      rcases e with e | e
                      · have := unhide HG6 g e; omega
                      · exact unhide HG3 g e
    · have hbf : (decide (4 ≤ bu) && decide (bu ≤ 65536)) = false := by simpa using hbu
      rw [hbf] at hC23
      have hok : okB ks bu = false := by unfold okB; rw [hbf]; simp
      have HOK := hide hok
      have HC22 := hide hC22
      have HC23 := hide hC23
      clear hC22 hC23 ha hr hK hok hbu hbf hkb
      go_enter Tryz.func9, Tryz.ntmps9
      go_wp2_with (first
        | (go_at_call 22; refine (unhide HC22).mono ?_; rintro _ w1 ⟨rfl, hb1⟩; have HB1 := hide hb1; clear hb1)
        | (go_at_call 23; refine (unhide HC23 _).mono ?_; rintro _ w9 ⟨rfl, hw9⟩; rw [hw9]; clear hw9))
      exact bodyPost_ret (v := .tuple #[.slice none 0 0, .int .i64 1]) (by simp [results, Tryz.results9, go_sem]) rfl ⟨_, 1, [], rfl, unhide HB1, .inl ⟨unhide HOK, rfl, rfl⟩⟩
  · have hkf : keysB ks = false := by simpa using hkb
    rw [hkf] at hC22
    have hok : okB ks bu = false := by unfold okB; rw [hkf]; rfl
    have HOK := hide hok
    have HC22 := hide hC22
    clear hC22 hC23 ha hr hK hok hkf hkb
    go_enter Tryz.func9, Tryz.ntmps9
    go_wp2_with (first
      | (go_at_call 22; refine (unhide HC22).mono ?_; rintro _ w1 ⟨rfl, hb1⟩; have HB1 := hide hb1; clear hb1))
    exact bodyPost_ret (v := .tuple #[.slice none 0 0, .int .i64 1]) (by simp [results, Tryz.results9, go_sem]) rfl ⟨_, 1, [], rfl, unhide HB1, .inl ⟨unhide HOK, rfl, rfl⟩⟩
end Go.Proofs.YtcbenpodohjbiaaGreat

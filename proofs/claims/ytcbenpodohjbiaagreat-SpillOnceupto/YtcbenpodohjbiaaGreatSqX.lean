import Derived.Test.YtcbenpodohjbiaaGreatSqW
import Derived.Test.YtcbenpodohjbiaaGreatSqI
set_option linter.unusedSimpArgs false
set_option linter.unusedVariables false
set_option maxRecDepth 100000
namespace Go.Proofs.YtcbenpodohjbiaaGreat
open Go.RowKit Go.Sort

/-- slices.Insert (63) of the last at 0. -/
theorem ins_last {w : World} {v : Value} {ids : List Nat} {R vb n : Nat} (h : OwnN w v (ids ++ [R])) (hn : ids.length = n) (h1 : 0 < n) (hl : n ≤ 1000000) (hv : w.heap[vb]? = some (.cells #[.int .i64 (R : Nat)] 3 (0, 0))) (hvb : v.ownBlock ≠ some vb) :
    ∃ g cap, v = .slice (some ⟨g, 0, none⟩) (n + 1) cap ∧ n + 1 ≤ cap ∧ w.cell? ⟨g, n, none⟩ = some (.int .i64 (R : Nat)) ∧ Calls Tryz.prog 63 #[.slice (some ⟨g, 0, none⟩) n cap, .int .i64 0, .slice (some ⟨vb, 0, none⟩) 1 1] w fun e w' => ∃ a5 c5, e = .returned (.slice a5 (n + 1) c5) ∧ OwnN w' (.slice a5 (n + 1) c5) (R :: ids) ∧ Ky (fun k => k = g) w w' ∧ ∀ k, (Value.slice a5 (n + 1) c5).ownBlock = some k → k = g ∨ w.heap.size ≤ k := by
  have h' := h
  unfold OwnN at h'
  have hlen : (ids ++ [R]).length = n + 1 := by rw [List.length_append, hn]; rfl
  rw [hlen] at h'
  rcases h'.2 with ⟨_, h0⟩ | ⟨g, cap, cur, e, _, hh, h2, h3, h4, h5⟩
  · omega
  · rw [Nat.mul_one] at h4 h5
    subst e
    have tg : Tg 3 w g := ⟨cur, _, hh⟩
    have ezs : intsZ (ids.map fun (i : Nat) => (i : Int)) = ids.map fun i => Value.int .i64 (i : Nat) := by unfold intsZ; rw [List.map_map]; rfl
    have ht : cur.toList.take n = intsZ (ids.map fun (i : Nat) => (i : Int)) := by
      rw [ezs]
      have : cur.toList.take n = (cur.toList.take (n + 1)).take n := by rw [List.take_take, Nat.min_eq_left (by omega)]
      rw [this, h5, List.map_append, List.take_append_of_le_length (by simp [hn]), List.take_of_length_le (by simp [hn])]
    have hzl : (ids.map fun (i : Nat) => (i : Int)).length = n := by rw [List.length_map, hn]
    refine ⟨g, cap, rfl, h2, ?_, ?_⟩
    · rw [World.ownsRow.cellAt h' n (by omega), List.getElem?_map, List.getElem?_append_right (by omega), hn, Nat.sub_self]
      rfl
    · refine (ins_in w g n cap 0 vb cur (ids.map fun (i : Nat) => (i : Int)) (R : Nat) hzl h1 hl h2 h3 hh h4 ht hv (fun e => hvb (by rw [e]; rfl))).mono ?_
      rintro _ w' ⟨a5, c5, rfl, p1, p2, p3⟩
      rw [hzl] at p1 p3 ⊢
      refine ⟨a5, c5, rfl, ?_, Ky.of_grown p2 (fun k e => by injection e with e; exact e.symm) (fun k t e hc q => by injection e with e; subst e; exact tg.ne q (by rintro rfl; revert hc; decide) rfl), fun k e => ?_⟩
      · unfold OwnN
        have e1 : intsZ ((ids.map fun (i : Nat) => (i : Int)).take 0 ++ (R : Int) :: (ids.map fun (i : Nat) => (i : Int)).drop 0) = (R :: ids).map fun i => Value.int .i64 (i : Nat) := by
          rw [List.take_zero, List.drop_zero, List.nil_append, List.map_cons, ← ezs]; rfl
        rw [e1] at p1
        rw [List.length_cons, hn]
        exact p1
      · rcases p3 with q | ⟨k', q1, q2⟩
        · left
          rw [q] at e
          injection e with e
          exact e.symm
        · right
          rw [q1] at e
          injection e with e
          omega
set_option maxHeartbeats 8000000 in
/-- layRest (40). -/
theorem layRest_any {F : Nat → Prop} {w : World} {b y m q B : Nat} {ks : List (Int × Bool)} {bu : Int × Bool} {Y : Yv} {ids : List Nat} {v : Value} {rs : List (List Val)} (h : Sw w b y m q B ks bu Y none ids F) (hL : Lst w v rs) (hv : ∀ g, v.ownBlock = some g → ¬ F g) (hn : rs.length ≤ 1048576) (hrd : Y.rd = false) (hcd : Y.cd ≠ 0) (hh : (rs.length : Int) ≤ Y.held) (hh1 : Y.held ≤ 1048576) (hhm : Y.held ≤ Y.most) (hrl : Y.runs.length < 1048576) (hil : ids.length ≤ 1000000) (hi0 : 0 < ids.length) (hp0 : 0 ≤ Y.puts) (hp1 : Y.puts + rs.length ≤ 1099511627776) :
    Calls Tryz.prog 40 #[.pointer (some ⟨q, 0, none⟩), v] w fun e w' => ∃ (Y' : Yv) (ids' : List Nat) (c : Int), e = .returned (.int .i64 c) ∧ So w w' b y m q B ks bu Y' none ids' F ∧ ((c = 0 ∧ ((rs = [] ∧ Y' = Y ∧ ids' = ids) ∨ (rs ≠ [] ∧ Laid rs Y Y' ∧ ids' = Y.runs.length :: ids))) ∨ (c = Y.cd ∧ Rfd Y Y')) := by
  obtain ⟨a, c, rfl⟩ := hL.form
  by_cases h0 : rs.length = 0
  · have H := hide h
    have i0 : ((rs.length : Int) == 0) = true := by simpa using h0
    have e0 : rs = [] := List.eq_nil_of_length_eq_zero h0
    have HE := hide e0
    have i0' : (rs.length : Int) = 0 := by omega
    clear h hL hv hh hp1 e0 h0
    go_enter Tryz.func40, Tryz.ntmps40
    go_wp2
    go_ret
    exact ⟨Y, ids, 0, rfl, ⟨F, Nw.refl _ _, fun _ e => e, unhide H, Ky.refl _ _⟩, .inl ⟨rfl, .inl ⟨unhide HE, rfl, rfl⟩⟩⟩
  · have HC := hide (lay_any h hL hv hn hrd hcd hh hh1 hhm hrl (by omega) hp0 hp1)
    have hne : rs ≠ [] := fun e => h0 (by rw [e]; rfl)
    have HNE := hide hne
    have i0' : ¬ (rs.length : Int) = 0 := by omega
    have i0 : ((rs.length : Int) == 0) = false := by simpa using i0'
    have hcd' : (Y.cd == 0) = false := by simpa using hcd
    obtain ⟨n, hnn⟩ : ∃ n, ids.length = n := ⟨_, rfl⟩
    obtain ⟨R, hR⟩ : ∃ R, Y.runs.length = R := ⟨_, rfl⟩
    have HR := hide hR
    rw [hnn] at hil hi0
    have HNN := hide hnn
    rw [hR] at HC
    clear h hL hv hh hp1 hne h0 hnn hR
    go_enter Tryz.func40, Tryz.ntmps40
    go_upto_region 4 with (first | (go_at_call 62; refine (unhide HC).mono ?_; rintro _ w1 ⟨Y1, ids1, c1, rfl, hS1, hL1, hc1⟩; have HS1 := hide hS1; have HC1 := hide hc1; clear hS1 hL1 hc1))
    obtain ⟨F1, a1, a2, a3, a4⟩ := unhide HS1
    rcases unhide HC1 with ⟨rfl, p1, p2⟩ | ⟨rfl, p1⟩
    · rw [p2] at a3
      obtain ⟨q1, q2, F0, vS, q3, q4, q5, q6, q7, q8, q9⟩ := a3.cut
      have c4 := q7.c4
      have f4 := q7.fr 4
      obtain ⟨aS, cS, eS⟩ : ∃ aS cS, vS = .slice aS (n + 1) cS := by
        obtain ⟨aS, cS, e⟩ := own_form q8
        refine ⟨aS, cS, ?_⟩
        rw [e, List.length_append, unhide HNN]; rfl
      subst eS
      have e4 : IntKind.i64.wrap (((n + 1 : Nat) : Int) - 1) = (n : Int) := by rw [IntWalk.i64_in _ (by omega)]; omega
      have hbd : Below w1.heap.size w1 w1.drew := (Below.refl _ _).drew
      have hbA := below_alloc (Below.refl _ w1.drew) (.cells #[.int .i64 (R : Int)] 3)
      have hbA' : Below w1.heap.size w1 (w1.drew.alloc (.cells #[.int .i64 (R : Int)] 3)) := hbd.trans hbA
      have hown1 : OwnN (w1.drew.alloc (.cells #[.int .i64 (R : Int)] 3)) (.slice aS (n + 1) cS) (ids ++ [R]) := own_later q8 hbA'
      obtain ⟨g, cap, eg, hcap, hcl, hI⟩ := ins_last (vb := w1.heap.size) hown1 (unhide HNN) hi0 (by omega) (heap_alloc_new w1.drew _) (fun e => by have := (own_tg q8 e).lt; omega)
      injection eg with eg1 _ eg3
      subst eg1 eg3
      have tg := own_tg q8 (g := g) rfl
      have hcl1 : w1.cell? ⟨g, n, none⟩ = some (.int .i64 (R : Nat)) := by
        rw [← hcl]
        exact (World.cell?_of_block (w := w1) (a := ⟨g, n, none⟩) (hbA'.block g tg.lt)).symm
      have tq := q7.tg
      have nqg : ¬ q = g := fun e => by subst e; exact tq.ne tg (by decide) rfl
      have ty := q6.tgy
      have HI := hide hI
      have HQ7 := hide q7
      have HQ6 := hide q6
      have HQ9 := hide q9
      have HBA := hide hbA'
      have HP1 := hide p1
      have HA1 := hide a1
      have HA2 := hide a2
      have HA4 := hide a4
      have HQ5 := hide q5
      have hsl := fun W => slice_to59 g 0 (n + 1) cS n W (by omega)
      have hnc : n ≤ cS := by omega
      have hnc' : (n : Int) ≤ (cS : Int) := by omega
      have hn1 : (n : Int) < ((n + 1 : Nat) : Int) := by omega
      have HF : Hid (∀ (w3 : World) (a5 : Option Addr) (c5 : Nat), OwnN w3 (.slice a5 (n + 1) c5) (R :: ids) → Ky (fun k => k = g) (w1.drew.alloc (.cells #[.int .i64 (R : Int)] 3)) w3 → (∀ k, (Value.slice a5 (n + 1) c5).ownBlock = some k → k = g ∨ (w1.drew.alloc (.cells #[.int .i64 (R : Int)] 3)).heap.size ≤ k) → So w (w3.setCell ⟨q, 4, none⟩ (.slice a5 (n + 1) c5)) b y m q B ks bu Y1 none (R :: ids) F) := fun w3 a5 c5 hO5 hk5 hn5 => by
        have k13 : Ky (fun k => k = g) w1 w3 := (Ky.of_below hbA').trans hk5 (Nw.refl _ _)
        have q73 := q7.ky k13 nqg
        have k34 : Ky (fun k => k = q) w3 (w3.setCell ⟨q, 4, none⟩ (.slice a5 (n + 1) c5)) := (Ky.refl (fun k => k = q) w3).set (F := fun k => k = q) rfl q73.tg (by decide) _ _
        have k14 : Ky (fun k => k = g ∨ k = q) w1 (w3.setCell ⟨q, 4, none⟩ (.slice a5 (n + 1) c5)) := (k13.mono fun k e => .inl e).trans (k34.mono fun k e => .inr e) (Nw.refl _ _)
        have sA := hbA'.size
        have s1 := a4.size
        have gF : F1 g ∧ ¬ F0 g := ⟨(q5 g rfl).1.1, (q5 g rfl).2⟩
        have hlim : ∀ k, F0 k → k < w1.heap.size := fun k e => (q3 k e).2
        have new : ∀ k, (Value.slice a5 (n + 1) c5).ownBlock = some k → k = g ∨ w1.heap.size ≤ k := fun k e => (hn5 k e).imp id (fun r => by omega)
        refine ⟨fun k => F1 k ∨ (Value.slice a5 (n + 1) c5).ownBlock = some k, fun k hk => ?_, fun k hk => .inl (a2 k hk), ⟨fun e => ?_, .inl q2.1, F0, .slice a5 (n + 1) c5, fun k hk => .inl (q3 k hk).1, q4, fun k e => ⟨.inr e, fun z => ?_⟩, q6.ky k14 (fun k e => ?_) (fun e => ?_), q73.set _, own_ky hO5 k34 (fun k e z => (own_tg hO5 e).ne q73.tg (by decide) z), q9.ky k14⟩, ?_⟩
        · rcases hk with hk | hk
          · exact a1 k hk
          · rcases new k hk with r | r
            · subst r; exact a1 k gF.1
            · exact .inr (by omega)
        · rcases e with e | e
          · exact a3.1 e
          · rcases new y e with r | r
            · exact ty.ne tg (by decide) r
            · have := ty.lt; omega
        · rcases new k e with r | r
          · subst r; exact gF.2 z
          · have := hlim k z; omega
        · rcases e with e | e
          · subst e; exact gF.2
          · subst e; exact q4
        · rcases e with e | e
          · exact ty.ne tg (by decide) e
          · exact ty.ne tq (by decide) e
        · exact a4.trans k14 (fun k e => by
            rcases e with e | e
            · subst e; exact a1 k gF.1
            · subst e; exact a1 k q2.1)
      clear hI q6 q7 q8 q9 hown1 hcl hbA hbA' p1 p2 a1 a2 a3 a4 HC1 HS1 q5 q3
      go_upto_region 6 with fail
      go_region_with (first | (go_at_call 63; refine (unhide HI).mono ?_; rintro _ w3 ⟨a5, c5, rfl, hO5, hk5, hn5⟩; have q73 := ((unhide HQ7).ky (G := fun _ => False) (Ky.of_below (unhide HBA)) id).ky hk5 nqg; have c43 := q73.c4; have f43 := q73.fr 4))
      all_goals (
        have HFF := hide (unhide HF w3 a5 c5 hO5 hk5 hn5)
        go_wp2
        go_ret
        exact ⟨Y1, R :: ids, 0, rfl, unhide HFF, .inl ⟨rfl, .inr ⟨unhide HNE, unhide HP1, by rw [unhide HR]⟩⟩⟩)
    · obtain ⟨q1, q2, F0, vS, q3, q4, q5, q6, q7, q8, q9⟩ := a3
      have c4 := q7.c4
      obtain ⟨aS, cS, eS⟩ := own_form q8
      subst eS
      have HP1 := hide p1
      clear q3 q5 q6 q7 q8 q9 HC1 p1
      go_wp2
      go_ret
      exact ⟨Y1, ids1, Y.cd, rfl, unhide HS1, .inr ⟨rfl, unhide HP1⟩⟩
end Go.Proofs.YtcbenpodohjbiaaGreat

import Derived.Test.YtjnggnhgambmkaaGreatRdN
import Derived.Defers
import Derived.Recover
set_option linter.unusedSimpArgs false
set_option linter.unusedVariables false
namespace Go.Proofs.YtjnggnhgambmkaaGreat
open Go.RowKit Go.Sort

def valuesD (scheme : Nat) (kind : Int) (count : Nat) (l : List UInt8) : Option (List Val × List UInt8) :=
  if scheme = 1 then plainsD kind count l
  else if scheme = 2 then (numD 4 l).bind fun p => (runsD kind count p.1 p.2).bind fun q => if q.1.length = count then some q else none
  else if scheme = 3 then wordsD kind count l
  else if scheme = 4 ∧ kind = 1 then offsetsD count l
  else none
/-- What is read. -/
def ReadsV (w w' : World) (e : Ending) (b : Nat) (vs : List Val) (r : List UInt8) : Prop := ∃ v, e = .returned v ∧ OwnV w' w.heap.size v vs ∧ Rd w' b r ∧ Gr w w' b
theorem reads_of {w w' : World} {e : Ending} {b : Nat} {vs : List Val} {r : List UInt8} (h : PlainsR w w' e b (some (vs, r))) : ReadsV w w' e b vs r := by
  rcases h with ⟨vs', r', v, he, h3, h4, h5, h6⟩ | ⟨he, _⟩
  · injection he with he; injection he with e1 e2; subst e1; subst e2
    exact ⟨v, h3, h4, h5, h6⟩
  · cases he
theorem wordsD_some {kind : Int} {count : Nat} {l r : List UInt8} {vs : List Val} (h : wordsD kind count l = some (vs, r)) : ∃ m l1 W l2 t, numD 2 l = some (m, l1) ∧ plainsD kind m l1 = some (W, l2) ∧ strictB W = true ∧ bitsD count (bl (m - 1)) l2 = some (t, r) ∧
    (∀ k ∈ numsOf t (bl (m - 1)) count, k < m) ∧ (∀ j, j < m → j ∈ numsOf t (bl (m - 1)) count) ∧ vs = (numsOf t (bl (m - 1)) count).map fun k => W.getD k .null := by
  unfold wordsD at h
  cases hn : numD 2 l with
  | none => rw [hn] at h; cases h
  | some p =>
    rw [hn, Option.bind_some] at h
    cases hp : plainsD kind p.1 p.2 with
    | none => rw [hp] at h; cases h
    | some q =>
      rw [hp, Option.bind_some] at h
      split at h
      · rename_i hs
        cases hb : bitsD count (bl (p.1 - 1)) q.2 with
        | none => rw [hb] at h; cases h
        | some t =>
          rw [hb, Option.bind_some] at h
          split at h
          · rename_i hc
            injection h with h; injection h with h1 h2
            subst h2
            exact ⟨p.1, p.2, q.1, q.2, t.1, rfl, hp, hs, hb, hc.1, hc.2, h1.symm⟩
          · cases h
      · cases h
set_option maxHeartbeats 400000 in
set_option maxRecDepth 100000 in
theorem values_to {b count : Nat} {sch kind : Int} {w : World} {l r : List UInt8} {vs : List Val} (f : Nat)
    (hf : (sch = 1 ∧ f = 72) ∨ (sch = 2 ∧ f = 73) ∨ (sch = 3 ∧ f = 74)) (hcall : Calls Tryz.prog f #[.pointer (some ⟨b, 0, none⟩), .int .i64 kind, .int .i64 count] w fun e w' => ReadsV w w' e b vs r) :
    Calls Tryz.prog 56 #[.pointer (some ⟨b, 0, none⟩), .int .i64 sch, .int .i64 kind, .int .i64 count] w fun e w' => ReadsV w w' e b vs r := by
  have HC := hide hcall
  clear hcall
  rcases hf with ⟨rfl, rfl⟩ | ⟨rfl, rfl⟩ | ⟨rfl, rfl⟩
  · go_enter Tryz.func56, Tryz.ntmps56
    go_wp2_with (go_at_call 72; refine (unhide HC).mono ?_; rintro e w1 ⟨v1, rfl, h1⟩)
    go_ret
    exact ⟨_, rfl, h1⟩
  · go_enter Tryz.func56, Tryz.ntmps56
    go_wp2_with (go_at_call 73; refine (unhide HC).mono ?_; rintro e w1 ⟨v1, rfl, h1⟩)
    go_ret
    exact ⟨_, rfl, h1⟩
  · go_enter Tryz.func56, Tryz.ntmps56
    go_wp2_with (go_at_call 74; refine (unhide HC).mono ?_; rintro e w1 ⟨v1, rfl, h1⟩)
    go_ret
    exact ⟨_, rfl, h1⟩
set_option maxHeartbeats 400000 in
set_option maxRecDepth 100000 in
theorem values_to4 {b count : Nat} {w : World} {l r : List UInt8} {vs : List Val} (hcall : Calls Tryz.prog 75 #[.pointer (some ⟨b, 0, none⟩), .int .i64 count] w fun e w' => ReadsV w w' e b vs r) :
    Calls Tryz.prog 56 #[.pointer (some ⟨b, 0, none⟩), .int .i64 4, .int .i64 1, .int .i64 count] w fun e w' => ReadsV w w' e b vs r := by
  have HC := hide hcall
  clear hcall
  go_enter Tryz.func56, Tryz.ntmps56
  go_wp2_with (first
    | (go_at_call 54; refine (ensure_yes _).mono ?_; rintro e w4 ⟨rfl, rfl⟩)
    | (go_at_call 75; refine (unhide HC).mono ?_; rintro e w1 ⟨v1, rfl, h1⟩))
  go_ret
  exact ⟨_, rfl, h1⟩
theorem values_yes {b count sch : Nat} {kind : Int} {w : World} {l r : List UInt8} {vs : List Val} (hc : count ≤ 4096) (hk : kind = 1 ∨ kind = 2) (h : Rd w b l) (hl : l.length ≤ 140737488355328) (hv : valuesD sch kind count l = some (vs, r)) :
    Calls Tryz.prog 56 #[.pointer (some ⟨b, 0, none⟩), .int .i64 (sch : Int), .int .i64 kind, .int .i64 count] w fun e w' => ReadsV w w' e b vs r := by
  unfold valuesD at hv
  split at hv
  · rename_i hs
    subst hs
    refine values_to (l := l) 72 (.inl ⟨rfl, rfl⟩) ?_
    have := plains_any b count kind l w hk (by omega) h hl
    rw [hv] at this
    exact this.mono fun e w' h => reads_of h
  · split at hv
    · rename_i hs
      subst hs
      refine values_to (l := l) 73 (.inr (.inl ⟨rfl, rfl⟩)) ?_
      cases hn : numD 4 l with
      | none => rw [hn] at hv; cases hv
      | some p =>
        rw [hn, Option.bind_some] at hv
        cases hr : runsD kind count p.1 p.2 with
        | none => rw [hr] at hv; cases hv
        | some q =>
          rw [hr, Option.bind_some] at hv
          split at hv
          · rename_i hlen
            injection hv with hv; subst hv
            exact runs_yes hc hk h hl hn hr hlen
          · cases hv
    · split at hv
      · rename_i hs
        subst hs
        refine values_to (l := l) 74 (.inr (.inr ⟨rfl, rfl⟩)) ?_
        obtain ⟨m, l1, W, l2, t, h1, h2, h3, h4, h5, h6, rfl⟩ := wordsD_some hv
        exact words_yes hc hk h hl h1 h2 h3 h4 h5 h6
      · split at hv
        · rename_i hs
          obtain ⟨rfl, rfl⟩ := hs
          refine values_to4 (l := l) ?_
          have := offsets_any b count l w hc h hl
          rw [hv] at this
          exact this.mono fun e w' h => reads_of h
        · cases hv
def columnD (l : List UInt8) : Option (Nat × Int × List Val) :=
  (numD 1 l).bind fun a => (numD 1 a.2).bind fun b => if b.1 = 1 ∨ b.1 = 2 then
    (numD 4 b.2).bind fun c => if c.1 ≤ 4096 then (nullsD c.1 c.2).bind fun d => (valuesD a.1 (b.1 : Int) (d.1.count false) d.2).bind fun e =>
      if e.2 = [] then some (a.1, (b.1 : Int), spreadL d.1 e.1) else none
    else none
  else none
theorem ite_some {α : Type} {c : Prop} [Decidable c] {a b : α} (h : (if c then some a else none) = some b) : c ∧ a = b := by
  by_cases hc : c
  · rw [if_pos hc] at h; injection h with h; exact ⟨hc, h⟩
  · rw [if_neg hc] at h; cases h
theorem valuesD_len {sch : Nat} {kind : Int} {count : Nat} {l r : List UInt8} {vs : List Val} (h : valuesD sch kind count l = some (vs, r)) : vs.length = count := by
  unfold valuesD at h
  split at h
  · exact (plainsD_len h).1
  · split at h
    · cases hn : numD 4 l with
      | none => rw [hn] at h; cases h
      | some p =>
        rw [hn, Option.bind_some] at h
        cases hr : runsD kind count p.1 p.2 with
        | none => rw [hr] at h; cases h
        | some q =>
          rw [hr, Option.bind_some] at h
          split at h
          · injection h with h; subst h; assumption
          · cases h
    · split at h
      · obtain ⟨m, l1, W, l2, t, _, _, _, _, _, _, rfl⟩ := wordsD_some h
        rw [List.length_map, nums_len]
      · split at h
        · unfold offsetsD at h
          cases hM : numD 8 l with
          | none => rw [hM] at h; cases h
          | some p =>
            rw [hM, Option.bind_some] at h
            cases hd : numD 1 p.2 with
            | none => rw [hd] at h; cases h
            | some q =>
              rw [hd, Option.bind_some] at h
              split at h
              · cases hb : bitsD count q.1 q.2 with
                | none => rw [hb] at h; cases h
                | some t =>
                  rw [hb, Option.bind_some] at h
                  have h1 := (ite_some h).2
                  injection h1 with e1 e2
                  rw [← e1, List.length_map, nums_len]
              · cases h
        · cases h
theorem columnD_some {l : List UInt8} {sch : Nat} {kind : Int} {xs : List Val} (h : columnD l = some (sch, kind, xs)) : ∃ l1 kd l2 n l3 nl l4 vs, numD 1 l = some (sch, l1) ∧ numD 1 l1 = some (kd, l2) ∧ kind = (kd : Int) ∧ (kd = 1 ∨ kd = 2) ∧ numD 4 l2 = some (n, l3) ∧ n ≤ 4096 ∧ nullsD n l3 = some (nl, l4) ∧ valuesD sch kind (nl.count false) l4 = some (vs, []) ∧ xs = spreadL nl vs := by
  unfold columnD at h
  cases h1 : numD 1 l with
  | none => rw [h1] at h; cases h
  | some a =>
    rw [h1, Option.bind_some] at h
    cases h2 : numD 1 a.2 with
    | none => rw [h2] at h; cases h
    | some b =>
      rw [h2, Option.bind_some] at h
      split at h
      · rename_i hk
        cases h3 : numD 4 b.2 with
        | none => rw [h3] at h; cases h
        | some c =>
          rw [h3, Option.bind_some] at h
          split at h
          · rename_i hc
            cases h4 : nullsD c.1 c.2 with
            | none => rw [h4] at h; cases h
            | some d =>
              rw [h4, Option.bind_some] at h
              cases h5 : valuesD a.1 (b.1 : Int) (d.1.count false) d.2 with
              | none => rw [h5] at h; cases h
              | some e =>
                rw [h5, Option.bind_some] at h
                split at h
                · rename_i he
                  injection h with h; injection h with g1 g2; injection g2 with g2 g3
                  subst g1; subst g2
                  exact ⟨a.2, b.1, b.2, c.1, c.2, d.1, d.2, e.1, rfl, h2, rfl, hk, h3, hc, h4, by rw [h5, ← he], g3.symm⟩
                · cases h
          · cases h
      · cases h
theorem nullsD_len {count : Nat} {l r : List UInt8} {nl : List Bool} (h : nullsD count l = some (nl, r)) : nl.length = count ∧ r.length ≤ l.length := by
  unfold nullsD at h
  cases hn : numD 1 l with
  | none => rw [hn] at h; cases h
  | some p =>
    rw [hn, Option.bind_some] at h
    have := numD_le hn
    split at h
    · injection h with h; injection h with h1 h2
      subst h1; subst h2; exact ⟨by simp, this⟩
    · split at h
      · cases hb : bitsD count 1 p.2 with
        | none => rw [hb] at h; cases h
        | some q =>
          rw [hb, Option.bind_some] at h
          split at h
          · injection h with h; injection h with h1 h2
            subst h1; subst h2
            exact ⟨nlOfT_len _ _, by have := (bitsD_some hb).2.2.1; omega⟩
          · cases h
      · cases h
/-- A column's box. -/
def box86 (a b c : Value) : Nat → Value
  | 0 => a
  | 1 => b
  | _ => c
theorem box86_alloc (w : World) (a b c : Value) : (w.alloc (.cells #[a, b, c] 72)).rowIs w.heap.size 72 3 (box86 a b c) := by
  refine World.rowIs_alloc w _ 72 _ ?_
  intro i hi
  match i, hi with
  | 0, _ => rfl
  | 1, _ => rfl
  | 2, _ => rfl
theorem box86_facts {w : World} {g : Nat} {a b c : Value} (h : w.rowIs g 72 3 (box86 a b c)) : w.cell? ⟨g, 0, none⟩ = some a ∧ w.cell? ⟨g, 1, none⟩ = some b ∧ w.cell? ⟨g, 2, none⟩ = some c ∧ w.frozen? ⟨g, 0, none⟩ = false ∧ w.frozen? ⟨g, 1, none⟩ = false ∧ w.frozen? ⟨g, 2, none⟩ = false :=
  ⟨h.cell (by omega), h.cell (by omega), h.cell (by omega), h.frozen _, h.frozen _, h.frozen _⟩
theorem OwnV.putg {w : World} {B g j : Nat} {v : Value} {xs : List Val} (h : OwnV w B v xs) (hg : g < B) (u : Value) : OwnV (w.setCell ⟨g, j, none⟩ u) B v xs := h.gr (grown_set _ _ _ _) hg
set_option maxHeartbeats 400000 in
set_option maxRecDepth 100000 in
theorem column_yes {b sch : Nat} {kind : Int} {l : List UInt8} {xs : List Val} {w : World} (h : Rd w b l) (hl : l.length ≤ 140737488355328) (hd : columnD l = some (sch, kind, xs)) :
    Calls Tryz.prog 43 #[.pointer (some ⟨b, 0, none⟩)] w fun e w' => ∃ v, e = .returned (.agg #[.int .i64 (sch : Int), .int .i64 kind, v]) ∧ OwnV w' w.heap.size v xs ∧ Gr w w' b := by
  obtain ⟨l1, kd, l2, n, l3, nl, l4, vs, h1, h2, rfl, hk, h3, hn, h4, h5, rfl⟩ := columnD_some hd
  have b1 := numD_le h1
  have b2 := numD_le h2
  have b3 := numD_le h3
  obtain ⟨hnl, b4⟩ := nullsD_len h4
  have hvl := valuesD_len h5
  have hsch : sch < 256 := by
    obtain ⟨g1, rfl, rfl⟩ := numD_some h1
    have := beV_lt (l.take 1)
    have h2 : (l.take 1).length = 1 := by rw [List.length_take]; omega
    rw [h2] at this; simpa using this
  have hct : nl.count false + nl.count true = n := by
    rw [← hnl]
    have : ∀ m : List Bool, m.count false + m.count true = m.length := by
      intro m
      induction m with
      | nil => rfl
      | cons a m ih => cases a <;> simp [List.count_cons] <;> omega
    exact this nl
  have hki : ((kd : Int)) = 1 ∨ (kd : Int) = 2 := by omega
  have C1 := hide (fun o => numd_yes (h.alloc o) hl h1 (by decide))
  have C2 := hide (fun W (hW : Rd W b l1) => numd_yes hW (by omega) h2 (by decide))
  have C3 := hide (fun W (hW : Rd W b l2) => numd_yes hW (by omega) h3 (by decide))
  have C4 : Hid (∀ W, Rd W b l3 → Calls Tryz.prog 55 #[.pointer (some ⟨b, 0, none⟩), .int .i64 n] W fun e w' => ∃ g, e = .returned (.tuple #[.slice (some ⟨g, 0, none⟩) n n, .int .i64 (nl.count true : Nat)]) ∧ w'.rowIs g 4 n (fun j => .bool (nl.getD j false)) ∧ W.heap.size ≤ g ∧ Rd w' b l4 ∧ Gr W w' b) := fun W hW => by
    have := nulls_any b n l3 W hn hW (by omega)
    rw [h4] at this
    refine this.mono ?_
    rintro e w' (⟨nl', r', g, he, g1, g2, g3, g4, g5, g6⟩ | ⟨he, _⟩)
    · injection he with he; injection he with e1 e2; subst e1; subst e2
      exact ⟨g, g1, g2, g4, g5, g6⟩
    · cases he
  have hcf : nl.count false ≤ 4096 := by omega
  have C5 := hide (fun W (hW : Rd W b l4) => values_yes hcf hki hW (by omega) h5)
  have hbw := h.ne
  have hnb : w.heap.size ≠ b := by omega
  have HBOX := hide (box86_alloc w (.int .i64 0) (.int .i64 0) (.slice none 0 0))
  have HSP : Hid (∀ W g a c, W.rowIs g 4 n (fun j => .bool (nl.getD j false)) → RowAt W a vs → Calls Tryz.prog 57 #[.slice (some ⟨g, 0, none⟩) n n, .slice a vs.length c] W fun e w' => ∃ v, e = .returned v ∧ OwnV w' W.heap.size v (spreadL nl vs) ∧ Below W.heap.size W w') := fun W g a c hg ha => spread_any g n nl a c vs W hn hnl hg ha hvl.symm
  have hni : (n : Int) ≤ 4096 := by omega
  obtain ⟨cT, hcT⟩ : ∃ cT, cT = nl.count true := ⟨_, rfl⟩
  obtain ⟨cF, hcF⟩ : ∃ cF, cF = nl.count false := ⟨_, rfl⟩
  rw [← hcT] at C4
  rw [← hcF] at C5
  have e1 : (n : Int) - (cT : Int) = (cF : Int) := by omega
  have hcTn : cT ≤ n := by omega
  have HNB := hide hnb
  have hse : ((bs []).data) = #[] := rfl
  clear h h1 h2 h3 h4 h5 hd hct hcT hcF hvl hnl hcf b1 b2 b3 b4
  rcases hk with rfl | rfl
  all_goals
    go_enter Tryz.func43, Tryz.ntmps43
    go_wp2_with (first
      | (go_at_call 53; first | (refine (unhide C3 _ hr2).mono ?_; rintro e w3 ⟨rfl, hr3, hg3⟩) | (refine (unhide C2 _ hr1).mono ?_; rintro e w2 ⟨rfl, hr2, hg2⟩) | (refine (unhide C1 _).mono ?_; rintro e w1 ⟨rfl, hr1, hg1⟩))
      | (go_at_call 54; refine (ensure_yes _).mono ?_; rintro e wE ⟨rfl, rfl⟩)
      | (go_at_call 55; refine (unhide C4 _ hr3).mono ?_; rintro e w4 ⟨g, rfl, hrow4, hgl4, hr4, hg4⟩)
      | (go_at_call 56; refine (unhide C5 _ hr4).mono ?_; rintro e w5 ⟨v5, rfl, ho5, hr5, hg5⟩; obtain ⟨a5, c5, rfl, _, _, hrw5⟩ := ownV_slice ho5; have c9 : w5.cell? ⟨b, 0, none⟩ = some (.string ⟨#[]⟩) := hr5.cell)
      | (go_at_call 57; refine (unhide HSP _ _ _ _ (row_grx hrow4 hg5 (by have := hg1.size; have := hg2.size; have := hg3.size; simp at *; omega)) hrw5).mono ?_; rintro e w6 ⟨v6, rfl, ho6, hb6⟩; obtain ⟨a6, c6, rfl, _, _, _⟩ := ownV_slice ho6; obtain ⟨p0, p1, p2, q0, q1, q2⟩ := box86_facts (rowIs_later (row_grx (row_grx (row_grx (row_grx (row_grx (unhide HBOX) hg1 (unhide HNB)) hg2 (unhide HNB)) hg3 (unhide HNB)) hg4 (unhide HNB)) hg5 (unhide HNB)) hb6)))
    have hz : w.heap.size + 1 ≤ wE.heap.size := by have := hg1.size; have := hg2.size; have := hg3.size; have := hg4.size; have := hg5.size; simp at *; omega
    refine bodyPost_ret (v := .agg #[.int .i64 (sch : Int), .int .i64 _, .slice a6 (spreadL nl vs).length c6]) ?_ rfl ⟨_, rfl, ?_, ?_⟩
    · simp [results, Tryz.results43, go_sem, p0, p1, p2]
    · exact own_base (((ho6.putg (by omega) _).putg (by omega) _).putg (by omega) _) (by omega)
    · exact (((((hg1.of_alloc.trans hg2).trans hg3).trans hg4).trans hg5).trans (Gr.of_below hb6 b)).put3 (Nat.le_refl _) _ _ _ _ _ _
end Go.Proofs.YtjnggnhgambmkaaGreat
set_option linter.unusedSimpArgs false
set_option linter.unusedVariables false
namespace Go.Proofs.YtjnggnhgambmkaaGreat
open Go.RowKit Go.Sort

theorem catch_idle (p q : Addr) (w : World) :
    CallsD Tryz.prog 42 #[.pointer (some p), .pointer (some q)] .returning w fun e u' w' => e = .returned (.tuple #[]) ∧ u' = .returning ∧ w' = w := by
  refine callsD_of_wpS Tryz.func42 rfl fun c₀ cs hu => ?_
  apply wpS_seq
  apply wpS_region
  simp [wpOpsS, go_sem, recoverD, hu, Tryz.ntmps42, Exit.thenS]
  apply wpS_seq
  apply wpS_seq
  apply wpS_region
  simp [wpOpsS, go_sem, Exit.thenS]
  refine wpS_cond (t := true) (by simp [Act.eval, Array.replicate]) ?_
  simp only [if_true]
  refine wpS_of_wp (wp_ret ?_)
  cases c₀
  simp_all [bodyPostS, results, Tryz.results42, Exit.thenS]
theorem Rd.made (w : World) (l : List UInt8) : Rd (w.alloc (.cells #[.string (bs l)] 84)) w.heap.size l := At1.alloc w 84 _
theorem bs_back (s : ByteArray) : bs s.data.toList = s := by simp [bs]
set_option maxHeartbeats 400000 in
set_option maxRecDepth 100000 in
theorem opened_yes {sch : Nat} {kind : Int} {l : List UInt8} {xs : List Val} {w : World} (hl : l.length ≤ 140737488355328) (hd : columnD l = some (sch, kind, xs)) :
    Calls Tryz.prog 37 #[.string (bs l)] w fun e w' => ∃ v, e = .returned (.tuple #[.agg #[.int .i64 (sch : Int), .int .i64 kind, v], .int .i64 0]) ∧ OwnV w' w.heap.size v xs ∧ Below w.heap.size w w' := by
  have hmf := makeFunc_run
  have HC : Hid (∀ o1 o2, Calls Tryz.prog 43 #[.pointer (some ⟨w.heap.size + 1 + 1, 0, none⟩)] (((w.alloc o1).alloc o2).alloc (.cells #[.string (bs l)] 84)) fun e w' => ∃ v, e = .returned (.agg #[.int .i64 (sch : Int), .int .i64 kind, v]) ∧ OwnV w' (w.heap.size + 1 + 1 + 1) v xs ∧ Gr (((w.alloc o1).alloc o2).alloc (.cells #[.string (bs l)] 84)) w' (w.heap.size + 1 + 1)) := fun o1 o2 => by
    have h := Rd.made ((w.alloc o1).alloc o2) l
    have e : ((w.alloc o1).alloc o2).heap.size = w.heap.size + 1 + 1 := by simp
    rw [e] at h
    have h2 := column_yes h hl hd
    have e2 : (((w.alloc o1).alloc o2).alloc (.cells #[.string (bs l)] 84)).heap.size = w.heap.size + 1 + 1 + 1 := by simp
    rw [e2] at h2
    exact h2
  have HX : Hid (∀ w1 o, Gr (((w.alloc (.cells #[.int .i64 0, .int .i64 0, .slice none 0 0] 72)).alloc (.cells #[.int .i64 0] 30)).alloc o) w1 (w.heap.size + 1 + 1) → w1.rowIs w.heap.size 72 3 (box86 (.int .i64 0) (.int .i64 0) (.slice none 0 0)) ∧ At1 w1 (w.heap.size + 1) 30 (.int .i64 0)) := fun w1 o hg => by
    refine ⟨row_grx (((box86_alloc w _ _ _).alloc _).alloc _) hg (by omega), ?_⟩
    have h := At1.alloc (w.alloc (.cells #[.int .i64 0, .int .i64 0, .slice none 0 0] 72)) 30 (.int .i64 0)
    have e : (w.alloc (.cells #[.int .i64 0, .int .i64 0, .slice none 0 0] 72)).heap.size = w.heap.size + 1 := by simp
    rw [e] at h
    exact (h.new o).gr hg (by omega)
  go_enter_defers Tryz.func37, Tryz.ntmps37
  go_wp2_with (go_at_call 43; refine (unhide HC _ _).mono ?_; rintro e w1 ⟨v1, rfl, ho1, hg1⟩; obtain ⟨a1, c1, rfl, _, _, _⟩ := ownV_slice ho1; obtain ⟨hx1, hx2⟩ := unhide HX w1 _ hg1; obtain ⟨p0, p1, p2, q0, q1, q2⟩ := box86_facts hx1; have y0 := hx2.cell; have z0 := World.rowIs.frozen hx2 0)
  refine leaves_cons (f := 42) (args := #[.pointer (some ⟨w.heap.size, 0, none⟩), .pointer (some ⟨w.heap.size + 1, 0, none⟩)]) (by simp) (by simp [go_sem]) ?_
  refine (catch_idle ⟨w.heap.size, 0, none⟩ ⟨w.heap.size + 1, 0, none⟩ _).mono ?_
  rintro e u' w'' ⟨rfl, rfl, rfl⟩
  have hz : w.heap.size + 1 + 1 + 1 ≤ w1.heap.size := by have := hg1.size; simpa using this
  have hb : Below w.heap.size w w1 := by
    refine ⟨hg1.os, hg1.tape, hg1.output, by omega, fun i hi => ?_⟩
    rw [hg1.block i (by simp; omega) (fun e => by injection e with e; omega), Below.heap_alloc _ _ _ (by simp; omega), Below.heap_alloc _ _ _ (by simp; omega), Below.heap_alloc _ _ _ hi]
  refine ⟨.tuple #[.agg #[.int .i64 (sch : Int), .int .i64 kind, .slice a1 xs.length c1], .int .i64 0], ?_, ⟨_, rfl, ?_, ?_⟩⟩
  · simp [results, Tryz.results37, go_sem, p0, p1, p2, y0]
  · exact own_base ((((ho1.putg (by omega) _).putg (by omega) _).putg (by omega) _).putg (by omega) _) (by omega)
  · exact (((hb.setCell (p := ⟨w.heap.size, 0, none⟩) (Nat.le_refl _) _).setCell (p := ⟨w.heap.size, 1, none⟩) (Nat.le_refl _) _).setCell (p := ⟨w.heap.size, 2, none⟩) (Nat.le_refl _) _).setCell (p := ⟨w.heap.size + 1, 0, none⟩) (by simp) _
end Go.Proofs.YtjnggnhgambmkaaGreat

import Derived.Test.YthbfomcmjjnikaaGreatRdM
import Derived.Defers
import Derived.Recover
import Derived.Test.YthbfomcmjjnikaaGreatPackVa
set_option linter.unusedSimpArgs false
set_option linter.unusedVariables false
namespace Go.Proofs.YthbfomcmjjnikaaGreat
open Go.RowKit Go.Sort

def valuesD (scheme : Nat) (kind : Int) (count : Nat) (l : List UInt8) : Option (List Val × List UInt8) :=
  if scheme = 1 then plainsD kind count l
  else if scheme = 2 then (numD 4 l).bind fun p => (runsD kind count p.1 p.2).bind fun q => if q.1.length = count then some q else none
  else if scheme = 3 then wordsD kind count l
  else if scheme = 4 ∧ kind = 1 then offsetsD count l
  else none
/-- What is read. -/
def ReadsV (w w' : World) (e : Ending) (b : Nat) (vs : List Val) (r : List UInt8) : Prop := ∃ v, e = .returned v ∧ OwnV w' w.heap.size v vs ∧ Rd w' b r ∧ Gr w w' b
theorem reads_of {w w' : World} {e : Ending} {b : Nat} {vs : List Val} {r : List UInt8} (h : PlainsR w w' e b (some (vs, r))) : ReadsV w w' e b vs r := by
  rcases h with ⟨vs', r', v, he, h3, h4, h5, h6⟩ | ⟨he, _⟩
  · injection he with he; injection he with e1 e2; subst e1; subst e2
    exact ⟨v, h3, h4, h5, h6⟩
  · cases he
theorem wordsD_some {kind : Int} {count : Nat} {l r : List UInt8} {vs : List Val} (h : wordsD kind count l = some (vs, r)) : ∃ m l1 W l2 t, numD 2 l = some (m, l1) ∧ plainsD kind m l1 = some (W, l2) ∧ strictB W = true ∧ bitsD count (bl (m - 1)) l2 = some (t, r) ∧
    (∀ k ∈ numsOf t (bl (m - 1)) count, k < m) ∧ (∀ j, j < m → j ∈ numsOf t (bl (m - 1)) count) ∧ vs = (numsOf t (bl (m - 1)) count).map fun k => W.getD k .null := by
  unfold wordsD at h
  cases hn : numD 2 l with
  | none => rw [hn] at h; cases h
  | some p =>
    rw [hn, Option.bind_some] at h
    cases hp : plainsD kind p.1 p.2 with
    | none => rw [hp] at h; cases h
    | some q =>
      rw [hp, Option.bind_some] at h
      split at h
      · rename_i hs
        cases hb : bitsD count (bl (p.1 - 1)) q.2 with
        | none => rw [hb] at h; cases h
        | some t =>
          rw [hb, Option.bind_some] at h
          split at h
          · rename_i hc
            injection h with h; injection h with h1 h2
            subst h2
            exact ⟨p.1, p.2, q.1, q.2, t.1, rfl, hp, hs, hb, hc.1, hc.2, h1.symm⟩
          · cases h
      · cases h
set_option maxHeartbeats 400000 in
set_option maxRecDepth 100000 in
theorem values_to {b count : Nat} {sch kind : Int} {w : World} {l r : List UInt8} {vs : List Val} (f : Nat)
    (hf : (sch = 1 ∧ f = 162) ∨ (sch = 2 ∧ f = 163) ∨ (sch = 3 ∧ f = 164)) (hcall : Calls Tryz.prog f #[.pointer (some ⟨b, 0, none⟩), .int .i64 kind, .int .i64 count] w fun e w' => ReadsV w w' e b vs r) :
    Calls Tryz.prog 151 #[.pointer (some ⟨b, 0, none⟩), .int .i64 sch, .int .i64 kind, .int .i64 count] w fun e w' => ReadsV w w' e b vs r := by
  have HC := hide hcall
  clear hcall
  rcases hf with ⟨rfl, rfl⟩ | ⟨rfl, rfl⟩ | ⟨rfl, rfl⟩
  · go_enter Tryz.func151, Tryz.ntmps151
    go_wp2_with (go_at_call 162; refine (unhide HC).mono ?_; rintro e w1 ⟨v1, rfl, h1⟩)
    go_ret
    exact ⟨_, rfl, h1⟩
  · go_enter Tryz.func151, Tryz.ntmps151
    go_wp2_with (go_at_call 163; refine (unhide HC).mono ?_; rintro e w1 ⟨v1, rfl, h1⟩)
    go_ret
    exact ⟨_, rfl, h1⟩
  · go_enter Tryz.func151, Tryz.ntmps151
    go_wp2_with (go_at_call 164; refine (unhide HC).mono ?_; rintro e w1 ⟨v1, rfl, h1⟩)
    go_ret
    exact ⟨_, rfl, h1⟩
set_option maxHeartbeats 400000 in
set_option maxRecDepth 100000 in
theorem values_to4 {b count : Nat} {w : World} {l r : List UInt8} {vs : List Val} (hcall : Calls Tryz.prog 165 #[.pointer (some ⟨b, 0, none⟩), .int .i64 count] w fun e w' => ReadsV w w' e b vs r) :
    Calls Tryz.prog 151 #[.pointer (some ⟨b, 0, none⟩), .int .i64 4, .int .i64 1, .int .i64 count] w fun e w' => ReadsV w w' e b vs r := by
  have HC := hide hcall
  clear hcall
  go_enter Tryz.func151, Tryz.ntmps151
  go_wp2_with (first
    | (go_at_call 149; refine (ensure_yes _).mono ?_; rintro e w4 ⟨rfl, rfl⟩)
    | (go_at_call 165; refine (unhide HC).mono ?_; rintro e w1 ⟨v1, rfl, h1⟩))
  go_ret
  exact ⟨_, rfl, h1⟩
theorem values_yes {b count sch : Nat} {kind : Int} {w : World} {l r : List UInt8} {vs : List Val} (hc : count ≤ 4096) (hk : kind = 1 ∨ kind = 2) (h : Rd w b l) (hl : l.length ≤ 140737488355328) (hv : valuesD sch kind count l = some (vs, r)) :
    Calls Tryz.prog 151 #[.pointer (some ⟨b, 0, none⟩), .int .i64 (sch : Int), .int .i64 kind, .int .i64 count] w fun e w' => ReadsV w w' e b vs r := by
  unfold valuesD at hv
  split at hv
  · rename_i hs
    subst hs
    refine values_to (l := l) 162 (.inl ⟨rfl, rfl⟩) ?_
    have := plains_any b count kind l w hk (by omega) h hl
    rw [hv] at this
    exact this.mono fun e w' h => reads_of h
  · split at hv
    · rename_i hs
      subst hs
      refine values_to (l := l) 163 (.inr (.inl ⟨rfl, rfl⟩)) ?_
      cases hn : numD 4 l with
      | none => rw [hn] at hv; cases hv
      | some p =>
        rw [hn, Option.bind_some] at hv
        cases hr : runsD kind count p.1 p.2 with
        | none => rw [hr] at hv; cases hv
        | some q =>
          rw [hr, Option.bind_some] at hv
          split at hv
          · rename_i hlen
            injection hv with hv; subst hv
            exact runs_yes hc hk h hl hn hr hlen
          · cases hv
    · split at hv
      · rename_i hs
        subst hs
        refine values_to (l := l) 164 (.inr (.inr ⟨rfl, rfl⟩)) ?_
        obtain ⟨m, l1, W, l2, t, h1, h2, h3, h4, h5, h6, rfl⟩ := wordsD_some hv
        exact words_yes hc hk h hl h1 h2 h3 h4 h5 h6
      · split at hv
        · rename_i hs
          obtain ⟨rfl, rfl⟩ := hs
          refine values_to4 (l := l) ?_
          have := offsets_any b count l w hc h hl
          rw [hv] at this
          exact this.mono fun e w' h => reads_of h
        · cases hv
def columnD (l : List UInt8) : Option (Nat × Int × List Val) :=
  (numD 1 l).bind fun a => (numD 1 a.2).bind fun b => if b.1 = 1 ∨ b.1 = 2 then
    (numD 4 b.2).bind fun c => if c.1 ≤ 4096 then (nullsD c.1 c.2).bind fun d => (valuesD a.1 (b.1 : Int) (d.1.count false) d.2).bind fun e =>
      if e.2 = [] then some (a.1, (b.1 : Int), spreadL d.1 e.1) else none
    else none
  else none
theorem ite_some {α : Type} {c : Prop} [Decidable c] {a b : α} (h : (if c then some a else none) = some b) : c ∧ a = b := by
  by_cases hc : c
  · rw [if_pos hc] at h; injection h with h; exact ⟨hc, h⟩
  · rw [if_neg hc] at h; cases h
theorem valuesD_len {sch : Nat} {kind : Int} {count : Nat} {l r : List UInt8} {vs : List Val} (h : valuesD sch kind count l = some (vs, r)) : vs.length = count := by
  unfold valuesD at h
  split at h
  · exact (plainsD_len h).1
  · split at h
    · cases hn : numD 4 l with
      | none => rw [hn] at h; cases h
      | some p =>
        rw [hn, Option.bind_some] at h
        cases hr : runsD kind count p.1 p.2 with
        | none => rw [hr] at h; cases h
        | some q =>
          rw [hr, Option.bind_some] at h
          split at h
          · injection h with h; subst h; assumption
          · cases h
    · split at h
      · obtain ⟨m, l1, W, l2, t, _, _, _, _, _, _, rfl⟩ := wordsD_some h
        rw [List.length_map, nums_len]
      · split at h
        · unfold offsetsD at h
          cases hM : numD 8 l with
          | none => rw [hM] at h; cases h
          | some p =>
            rw [hM, Option.bind_some] at h
            cases hd : numD 1 p.2 with
            | none => rw [hd] at h; cases h
            | some q =>
              rw [hd, Option.bind_some] at h
              split at h
              · cases hb : bitsD count q.1 q.2 with
                | none => rw [hb] at h; cases h
                | some t =>
                  rw [hb, Option.bind_some] at h
                  have h1 := (ite_some h).2
                  injection h1 with e1 e2
                  rw [← e1, List.length_map, nums_len]
              · cases h
        · cases h
theorem columnD_some {l : List UInt8} {sch : Nat} {kind : Int} {xs : List Val} (h : columnD l = some (sch, kind, xs)) : ∃ l1 kd l2 n l3 nl l4 vs, numD 1 l = some (sch, l1) ∧ numD 1 l1 = some (kd, l2) ∧ kind = (kd : Int) ∧ (kd = 1 ∨ kd = 2) ∧ numD 4 l2 = some (n, l3) ∧ n ≤ 4096 ∧ nullsD n l3 = some (nl, l4) ∧ valuesD sch kind (nl.count false) l4 = some (vs, []) ∧ xs = spreadL nl vs := by
  unfold columnD at h
  cases h1 : numD 1 l with
  | none => rw [h1] at h; cases h
  | some a =>
    rw [h1, Option.bind_some] at h
    cases h2 : numD 1 a.2 with
    | none => rw [h2] at h; cases h
    | some b =>
      rw [h2, Option.bind_some] at h
      split at h
      · rename_i hk
        cases h3 : numD 4 b.2 with
        | none => rw [h3] at h; cases h
        | some c =>
          rw [h3, Option.bind_some] at h
          split at h
          · rename_i hc
            cases h4 : nullsD c.1 c.2 with
            | none => rw [h4] at h; cases h
            | some d =>
              rw [h4, Option.bind_some] at h
              cases h5 : valuesD a.1 (b.1 : Int) (d.1.count false) d.2 with
              | none => rw [h5] at h; cases h
              | some e =>
                rw [h5, Option.bind_some] at h
                split at h
                · rename_i he
                  injection h with h; injection h with g1 g2; injection g2 with g2 g3
                  subst g1; subst g2
                  exact ⟨a.2, b.1, b.2, c.1, c.2, d.1, d.2, e.1, rfl, h2, rfl, hk, h3, hc, h4, by rw [h5, ← he], g3.symm⟩
                · cases h
          · cases h
      · cases h
theorem nullsD_len {count : Nat} {l r : List UInt8} {nl : List Bool} (h : nullsD count l = some (nl, r)) : nl.length = count ∧ r.length ≤ l.length := by
  unfold nullsD at h
  cases hn : numD 1 l with
  | none => rw [hn] at h; cases h
  | some p =>
    rw [hn, Option.bind_some] at h
    have := numD_le hn
    split at h
    · injection h with h; injection h with h1 h2
      subst h1; subst h2; exact ⟨by simp, this⟩
    · split at h
      · cases hb : bitsD count 1 p.2 with
        | none => rw [hb] at h; cases h
        | some q =>
          rw [hb, Option.bind_some] at h
          split at h
          · injection h with h; injection h with h1 h2
            subst h1; subst h2
            exact ⟨nlOfT_len _ _, by have := (bitsD_some hb).2.2.1; omega⟩
          · cases h
      · cases h
/-- A column's box. -/
def box86 (a b c : Value) : Nat → Value
  | 0 => a
  | 1 => b
  | _ => c
theorem box86_alloc (w : World) (a b c : Value) : (w.alloc (.cells #[a, b, c] 146)).rowIs w.heap.size 146 3 (box86 a b c) := by
  refine World.rowIs_alloc w _ 146 _ ?_
  intro i hi
  match i, hi with
  | 0, _ => rfl
  | 1, _ => rfl
  | 2, _ => rfl
theorem box86_facts {w : World} {g : Nat} {a b c : Value} (h : w.rowIs g 146 3 (box86 a b c)) : w.cell? ⟨g, 0, none⟩ = some a ∧ w.cell? ⟨g, 1, none⟩ = some b ∧ w.cell? ⟨g, 2, none⟩ = some c ∧ w.frozen? ⟨g, 0, none⟩ = false ∧ w.frozen? ⟨g, 1, none⟩ = false ∧ w.frozen? ⟨g, 2, none⟩ = false :=
  ⟨h.cell (by omega), h.cell (by omega), h.cell (by omega), h.frozen _, h.frozen _, h.frozen _⟩
theorem OwnV.putg {w : World} {B g j : Nat} {v : Value} {xs : List Val} (h : OwnV w B v xs) (hg : g < B) (u : Value) : OwnV (w.setCell ⟨g, j, none⟩ u) B v xs := h.gr (grown_set _ _ _ _) hg
set_option maxHeartbeats 400000 in
set_option maxRecDepth 100000 in
theorem column_yes {b sch : Nat} {kind : Int} {l : List UInt8} {xs : List Val} {w : World} (h : Rd w b l) (hl : l.length ≤ 140737488355328) (hd : columnD l = some (sch, kind, xs)) :
    Calls Tryz.prog 121 #[.pointer (some ⟨b, 0, none⟩)] w fun e w' => ∃ v, e = .returned (.agg #[.int .i64 (sch : Int), .int .i64 kind, v]) ∧ OwnV w' w.heap.size v xs ∧ Gr w w' b := by
  obtain ⟨l1, kd, l2, n, l3, nl, l4, vs, h1, h2, rfl, hk, h3, hn, h4, h5, rfl⟩ := columnD_some hd
  have b1 := numD_le h1
  have b2 := numD_le h2
  have b3 := numD_le h3
  obtain ⟨hnl, b4⟩ := nullsD_len h4
  have hvl := valuesD_len h5
  have hsch : sch < 256 := by
    obtain ⟨g1, rfl, rfl⟩ := numD_some h1
    have := beV_lt (l.take 1)
    have h2 : (l.take 1).length = 1 := by rw [List.length_take]; omega
    rw [h2] at this; simpa using this
  have hct : nl.count false + nl.count true = n := by
    rw [← hnl]
    have : ∀ m : List Bool, m.count false + m.count true = m.length := by
      intro m
      induction m with
      | nil => rfl
      | cons a m ih => cases a <;> simp [List.count_cons] <;> omega
    exact this nl
  have hki : ((kd : Int)) = 1 ∨ (kd : Int) = 2 := by omega
  have C1 := hide (fun o => numd_yes (h.alloc o) hl h1 (by decide))
  have C2 := hide (fun W (hW : Rd W b l1) => numd_yes hW (by omega) h2 (by decide))
  have C3 := hide (fun W (hW : Rd W b l2) => numd_yes hW (by omega) h3 (by decide))
  have C4 : Hid (∀ W, Rd W b l3 → Calls Tryz.prog 150 #[.pointer (some ⟨b, 0, none⟩), .int .i64 n] W fun e w' => ∃ g, e = .returned (.tuple #[.slice (some ⟨g, 0, none⟩) n n, .int .i64 (nl.count true : Nat)]) ∧ w'.rowIs g 4 n (fun j => .bool (nl.getD j false)) ∧ W.heap.size ≤ g ∧ Rd w' b l4 ∧ Gr W w' b) := fun W hW => by
    have := nulls_any b n l3 W hn hW (by omega)
    rw [h4] at this
    refine this.mono ?_
    rintro e w' (⟨nl', r', g, he, g1, g2, g3, g4, g5, g6⟩ | ⟨he, _⟩)
    · injection he with he; injection he with e1 e2; subst e1; subst e2
      exact ⟨g, g1, g2, g4, g5, g6⟩
    · cases he
  have hcf : nl.count false ≤ 4096 := by omega
  have C5 := hide (fun W (hW : Rd W b l4) => values_yes hcf hki hW (by omega) h5)
  have hbw := h.ne
  have hnb : w.heap.size ≠ b := by omega
  have HBOX := hide (box86_alloc w (.int .i64 0) (.int .i64 0) (.slice none 0 0))
  have HSP : Hid (∀ W g a c, W.rowIs g 4 n (fun j => .bool (nl.getD j false)) → RowAt W a vs → Calls Tryz.prog 152 #[.slice (some ⟨g, 0, none⟩) n n, .slice a vs.length c] W fun e w' => ∃ v, e = .returned v ∧ OwnV w' W.heap.size v (spreadL nl vs) ∧ Below W.heap.size W w') := fun W g a c hg ha => spread_any g n nl a c vs W hn hnl hg ha hvl.symm
  have hni : (n : Int) ≤ 4096 := by omega
  obtain ⟨cT, hcT⟩ : ∃ cT, cT = nl.count true := ⟨_, rfl⟩
  obtain ⟨cF, hcF⟩ : ∃ cF, cF = nl.count false := ⟨_, rfl⟩
  rw [← hcT] at C4
  rw [← hcF] at C5
  have e1 : (n : Int) - (cT : Int) = (cF : Int) := by omega
  have hcTn : cT ≤ n := by omega
  have HNB := hide hnb
  have hse : ((bs []).data) = #[] := rfl
  clear h h1 h2 h3 h4 h5 hd hct hcT hcF hvl hnl hcf b1 b2 b3 b4
  rcases hk with rfl | rfl
  all_goals
    go_enter Tryz.func121, Tryz.ntmps121
    go_wp2_with (first
      | (go_at_call 148; first | (refine (unhide C3 _ hr2).mono ?_; rintro e w3 ⟨rfl, hr3, hg3⟩) | (refine (unhide C2 _ hr1).mono ?_; rintro e w2 ⟨rfl, hr2, hg2⟩) | (refine (unhide C1 _).mono ?_; rintro e w1 ⟨rfl, hr1, hg1⟩))
      | (go_at_call 149; refine (ensure_yes _).mono ?_; rintro e wE ⟨rfl, rfl⟩)
      | (go_at_call 150; refine (unhide C4 _ hr3).mono ?_; rintro e w4 ⟨g, rfl, hrow4, hgl4, hr4, hg4⟩)
      | (go_at_call 151; refine (unhide C5 _ hr4).mono ?_; rintro e w5 ⟨v5, rfl, ho5, hr5, hg5⟩; obtain ⟨a5, c5, rfl, _, _, hrw5⟩ := ownV_slice ho5; have c9 : w5.cell? ⟨b, 0, none⟩ = some (.string ⟨#[]⟩) := hr5.cell)
      | (go_at_call 152; refine (unhide HSP _ _ _ _ (row_grx hrow4 hg5 (by have := hg1.size; have := hg2.size; have := hg3.size; simp at *; omega)) hrw5).mono ?_; rintro e w6 ⟨v6, rfl, ho6, hb6⟩; obtain ⟨a6, c6, rfl, _, _, _⟩ := ownV_slice ho6; obtain ⟨p0, p1, p2, q0, q1, q2⟩ := box86_facts (rowIs_later (row_grx (row_grx (row_grx (row_grx (row_grx (unhide HBOX) hg1 (unhide HNB)) hg2 (unhide HNB)) hg3 (unhide HNB)) hg4 (unhide HNB)) hg5 (unhide HNB)) hb6)))
    have hz : w.heap.size + 1 ≤ wE.heap.size := by have := hg1.size; have := hg2.size; have := hg3.size; have := hg4.size; have := hg5.size; simp at *; omega
    refine bodyPost_ret (v := .agg #[.int .i64 (sch : Int), .int .i64 _, .slice a6 (spreadL nl vs).length c6]) ?_ rfl ⟨_, rfl, ?_, ?_⟩
    · simp [results, Tryz.results121, go_sem, p0, p1, p2]
    · exact own_base (((ho6.putg (by omega) _).putg (by omega) _).putg (by omega) _) (by omega)
    · exact (((((hg1.of_alloc.trans hg2).trans hg3).trans hg4).trans hg5).trans (Gr.of_below hb6 b)).put3 (Nat.le_refl _) _ _ _ _ _ _
end Go.Proofs.YthbfomcmjjnikaaGreat
set_option linter.unusedSimpArgs false
set_option linter.unusedVariables false
namespace Go.Proofs.YthbfomcmjjnikaaGreat
open Go.RowKit Go.Sort

theorem catch_idle (p q : Addr) (w : World) :
    CallsD Tryz.prog 120 #[.pointer (some p), .pointer (some q)] .returning w fun e u' w' => e = .returned (.tuple #[]) ∧ u' = .returning ∧ w' = w := by
  refine callsD_of_wpS Tryz.func120 rfl fun c₀ cs hu => ?_
  apply wpS_seq
  apply wpS_region
  simp [wpOpsS, go_sem, recoverD, hu, Tryz.ntmps120, Exit.thenS]
  apply wpS_seq
  apply wpS_seq
  apply wpS_region
  simp [wpOpsS, go_sem, Exit.thenS]
  refine wpS_cond (t := true) (by simp [Act.eval, Array.replicate]) ?_
  simp only [if_true]
  refine wpS_of_wp (wp_ret ?_)
  cases c₀
  simp_all [bodyPostS, results, Tryz.results120, Exit.thenS]
theorem Rd.made (w : World) (l : List UInt8) : Rd (w.alloc (.cells #[.string (bs l)] 172)) w.heap.size l := At1.alloc w 172 _
theorem bs_back (s : ByteArray) : bs s.data.toList = s := by simp [bs]
set_option maxHeartbeats 400000 in
set_option maxRecDepth 100000 in
theorem opened_yes {sch : Nat} {kind : Int} {l : List UInt8} {xs : List Val} {w : World} (hl : l.length ≤ 140737488355328) (hd : columnD l = some (sch, kind, xs)) :
    Calls Tryz.prog 101 #[.string (bs l)] w fun e w' => ∃ v, e = .returned (.tuple #[.agg #[.int .i64 (sch : Int), .int .i64 kind, v], .int .i64 0]) ∧ OwnV w' w.heap.size v xs ∧ Below w.heap.size w w' := by
  have hmf := makeFunc_run
  have HC : Hid (∀ o1 o2, Calls Tryz.prog 121 #[.pointer (some ⟨w.heap.size + 1 + 1, 0, none⟩)] (((w.alloc o1).alloc o2).alloc (.cells #[.string (bs l)] 172)) fun e w' => ∃ v, e = .returned (.agg #[.int .i64 (sch : Int), .int .i64 kind, v]) ∧ OwnV w' (w.heap.size + 1 + 1 + 1) v xs ∧ Gr (((w.alloc o1).alloc o2).alloc (.cells #[.string (bs l)] 172)) w' (w.heap.size + 1 + 1)) := fun o1 o2 => by
    have h := Rd.made ((w.alloc o1).alloc o2) l
    have e : ((w.alloc o1).alloc o2).heap.size = w.heap.size + 1 + 1 := by simp
    rw [e] at h
    have h2 := column_yes h hl hd
    have e2 : (((w.alloc o1).alloc o2).alloc (.cells #[.string (bs l)] 172)).heap.size = w.heap.size + 1 + 1 + 1 := by simp
    rw [e2] at h2
    exact h2
  have HX : Hid (∀ w1 o, Gr (((w.alloc (.cells #[.int .i64 0, .int .i64 0, .slice none 0 0] 146)).alloc (.cells #[.int .i64 0] 24)).alloc o) w1 (w.heap.size + 1 + 1) → w1.rowIs w.heap.size 146 3 (box86 (.int .i64 0) (.int .i64 0) (.slice none 0 0)) ∧ At1 w1 (w.heap.size + 1) 24 (.int .i64 0)) := fun w1 o hg => by
    refine ⟨row_grx (((box86_alloc w _ _ _).alloc _).alloc _) hg (by omega), ?_⟩
    have h := At1.alloc (w.alloc (.cells #[.int .i64 0, .int .i64 0, .slice none 0 0] 146)) 24 (.int .i64 0)
    have e : (w.alloc (.cells #[.int .i64 0, .int .i64 0, .slice none 0 0] 146)).heap.size = w.heap.size + 1 := by simp
    rw [e] at h
    exact (h.new o).gr hg (by omega)
  go_enter_defers Tryz.func101, Tryz.ntmps101
  go_wp2_with (go_at_call 121; refine (unhide HC _ _).mono ?_; rintro e w1 ⟨v1, rfl, ho1, hg1⟩; obtain ⟨a1, c1, rfl, _, _, _⟩ := ownV_slice ho1; obtain ⟨hx1, hx2⟩ := unhide HX w1 _ hg1; obtain ⟨p0, p1, p2, q0, q1, q2⟩ := box86_facts hx1; have y0 := hx2.cell; have z0 := World.rowIs.frozen hx2 0)
  refine leaves_cons (f := 120) (args := #[.pointer (some ⟨w.heap.size, 0, none⟩), .pointer (some ⟨w.heap.size + 1, 0, none⟩)]) (by simp) (by simp [go_sem]) ?_
  refine (catch_idle ⟨w.heap.size, 0, none⟩ ⟨w.heap.size + 1, 0, none⟩ _).mono ?_
  rintro e u' w'' ⟨rfl, rfl, rfl⟩
  have hz : w.heap.size + 1 + 1 + 1 ≤ w1.heap.size := by have := hg1.size; simpa using this
  have hb : Below w.heap.size w w1 := by
    refine ⟨hg1.os, hg1.tape, hg1.output, by omega, fun i hi => ?_⟩
    rw [hg1.block i (by simp; omega) (fun e => by injection e with e; omega), Below.heap_alloc _ _ _ (by simp; omega), Below.heap_alloc _ _ _ (by simp; omega), Below.heap_alloc _ _ _ hi]
  refine ⟨.tuple #[.agg #[.int .i64 (sch : Int), .int .i64 kind, .slice a1 xs.length c1], .int .i64 0], ?_, ⟨_, rfl, ?_, ?_⟩⟩
  · simp [results, Tryz.results101, go_sem, p0, p1, p2, y0]
  · exact own_base ((((ho1.putg (by omega) _).putg (by omega) _).putg (by omega) _).putg (by omega) _) (by omega)
  · exact (((hb.setCell (p := ⟨w.heap.size, 0, none⟩) (Nat.le_refl _) _).setCell (p := ⟨w.heap.size, 1, none⟩) (Nat.le_refl _) _).setCell (p := ⟨w.heap.size, 2, none⟩) (Nat.le_refl _) _).setCell (p := ⟨w.heap.size + 1, 0, none⟩) (by simp) _
end Go.Proofs.YthbfomcmjjnikaaGreat
set_option linter.unusedSimpArgs false
set_option linter.unusedVariables false
namespace Go.Proofs.YthbfomcmjjnikaaGreat
open Go.RowKit Go.Sort

set_option maxHeartbeats 8000000 in
set_option maxRecDepth 100000 in
theorem apwords_any (base b0 : Nat) (zs : List Int) (xs : List Val) (vv v : Value) (w : World) (hown : OwnB w base v zs) (hlen : zs.length ≤ 1000000) (hl : xs.length ≤ 4096) (hs : ∀ x ∈ xs, x.s.size ≤ 1000) (hbase : base ≤ w.heap.size) (ha : OwnV w b0 vv xs) :
    Calls Tryz.prog 117 #[v, vv] w fun e w' => ∃ W v', WordsOf xs W ∧ e = .returned v' ∧ OwnB w' base v' (zs ++ wordsB W xs) ∧ Grew w w' v v' := by
  obtain ⟨i6, hi6, z60, z61, z62⟩ := info_parts Tryz.info73
  have hsep := ownB_ownV_ne hown ha
  obtain ⟨aa, ca, rfl, hspot, hnone, hrow⟩ := ownV_slice ha
  have hgv : ∀ g, v.ownBlock = some g → g < w.heap.size := fun g hg => (ownB_lt hown hg).2
  have H1 := hide (vclone_any aa ca xs w (by omega) hspot hrow hnone)
  have H2 : Hid (∀ w1 v5, OwnV w1 w.heap.size v5 xs → Below w.heap.size w w1 → Calls Tryz.prog 142 #[v5, .func (.func 103) #[] #[]] w1 fun e w' => e = .returned (.tuple #[]) ∧ ∃ S, (OwnV w' w.heap.size v5 S ∧ Below w.heap.size w w') ∧ S.Perm xs ∧ Rises S) := fun w1 v5 h1 h2 =>
    (vsort_any w.heap.size xs v5 w1 (by omega) h1).mono fun e w' ⟨he, S, q1, q2, q3, q4⟩ => ⟨he, S, ⟨q1, h2.trans (q2.below h2.size fun g hg => (World.ownsRow.lt h1 g hg).1)⟩, q3, q4⟩
  have H3 : Hid (∀ w2 v5 S, (OwnV w2 w.heap.size v5 S ∧ Below w.heap.size w w2) → (S.Perm xs ∧ Rises S) → Calls Tryz.prog 143 #[v5] w2 fun e w' => ∃ W a6 c6, e = .returned (.slice a6 W.length c6) ∧ Hid (WordsOf xs W) ∧ Hid (OwnV w' w.heap.size (.slice a6 W.length c6) W ∧ Below w.heap.size w w')) := fun w2 v5 S ⟨h1, h2⟩ ⟨h3, h4⟩ =>
    (vcompact_any w.heap.size S v5 w2 (by rw [h3.length_eq]; omega) h1).mono fun e w' ⟨v', he, q1, q2⟩ => by
      obtain ⟨a6, c6, rfl, _⟩ := ownV_slice q1
      exact ⟨compL S, a6, c6, he, ⟨S, h3, h4, rfl⟩, q1, h2.trans (q2.below h2.size fun g hg => (World.ownsRow.lt h1 g hg).1)⟩
  have H4 : Hid (∀ w3 W a6 c6, Hid (WordsOf xs W) → Hid (OwnV w3 w.heap.size (.slice a6 W.length c6) W ∧ Below w.heap.size w w3) → Calls Tryz.prog 112 #[v, .int .u64 (W.length : Int), .int .i64 2] w3 fun e w' => ∃ v', e = .returned v' ∧ Hid (OwnB w' base v' (zs ++ beL (W.length : Int) 2 2) ∧ OwnV w' w.heap.size (.slice a6 W.length c6) W ∧ Grew w w' v v')) := fun w3 W a6 c6 hW ⟨h1, h2⟩ => by
    have hO : OwnB w3 base v zs := own_later hown h2
    exact (appnum_any base zs (W.length : Int) 2 v w3 (by omega) hO (by omega) (by have := h2.size; omega)).mono fun e w' ⟨v', he, q1, q2⟩ => ⟨v', he, q1, h1.grew q2 (ownB_ownV_ne hO h1), (Grew.of_below h2 v).trans q2⟩
  have H5 : Hid (∀ w4 W a6 c6 v7, Hid (WordsOf xs W) → Hid (OwnB w4 base v7 (zs ++ beL (W.length : Int) 2 2) ∧ OwnV w4 w.heap.size (.slice a6 W.length c6) W ∧ Grew w w4 v v7) → Calls Tryz.prog 119 #[v7, .slice a6 W.length c6] w4 fun e w' => ∃ v', e = .returned v' ∧ Hid (OwnB w' base v' (zs ++ (beL (W.length : Int) 2 2 ++ plains W)) ∧ OwnV w' w.heap.size (.slice a6 W.length c6) W ∧ Grew w w' v v')) := fun w4 W a6 c6 v7 hW ⟨h1, h2, h3⟩ => by
    have hWl := (unhide hW).len
    obtain ⟨a6', c6', e6, _, _, hr6⟩ := ownV_slice h2
    injection e6 with e6 _ _
    subst e6
    have hsp := ownB_ownV_ne h1 h2
    refine (applains_any base _ a6 c6 W v7 w4 h1 (by rw [List.length_append, beL_len]; omega) (fun x hx => hs x ((unhide hW).sub hx)) (by have := h3.1.size; omega) hr6 (fun ad e => hsp ad.block (by rw [e]; rfl))).mono fun e w' ⟨v', he, q1, q2⟩ => ⟨v', he, by rw [← List.append_assoc]; exact q1, h2.grew q2 hsp, h3.trans q2⟩
  have HGV := hide hgv
  have HS := hide hs
  have HROW := hide hrow
  have HSEP : Hid (∀ ad, aa = some ad → v.ownBlock ≠ some ad.block) := fun ad e => hsep ad.block (by rw [e]; rfl)
  clear hown hs ha hsep hspot hnone hrow hgv
  go_enter Tryz.func117, Tryz.ntmps117
  go_wp2_with (first
    | (go_at_call 115; refine (unhide H1).mono ?_; rintro e w1 ⟨v5, rfl, q1, q2⟩; replace q1 := hide q1; replace q2 := hide q2)
    | (go_at_call 142; refine (unhide H2 _ _ (unhide q1) (unhide q2)).mono ?_; rintro e w2 ⟨rfl, S, q3, q4⟩; replace q3 := hide q3; replace q4 := hide q4)
    | (go_at_call 143; refine (unhide H3 _ _ _ (unhide q3) (unhide q4)).mono ?_; rintro e w3 ⟨W, a6, c6, rfl, HW, q5⟩; have hWl : (W.length : Int) ≤ 4096 := (by have := (unhide HW).len; omega))
    | (go_at_call 112; refine (unhide H4 _ _ _ _ HW q5).mono ?_; rintro e w4 ⟨v7, rfl, q6⟩)
    | (go_at_call 119; refine (unhide H5 _ _ _ _ _ HW q6).mono ?_; rintro e w5 ⟨v8, rfl, q7⟩)
    | (at_make; refine wpList_make_row _ rfl (.tmp 26) (.tmp 26) 113 rfl 73 i6 (.int .u64 0) Tryz.underlying113 hi6 z60 z61 rfl .i64 .i64 xs.length rfl rfl (by rw [z62]; omega) (by omega) ?_)
    | fail)
  obtain ⟨ns, hns⟩ : ∃ ns, Hid (ns = xs.map (posN W)) := ⟨_, rfl⟩
  have HNL : Hid (ns.length = xs.length) := by show _ = _; rw [unhide hns]; simp
  have hsz5 := (unhide q7).2.2.1.size
  have hr5 := ((unhide HROW).grew (unhide q7).2.2 (unhide HSEP))
  have HR5 := hide hr5
  obtain ⟨a6', c6', e6, _, _, hr6⟩ := ownV_slice (unhide q7).2.1
  injection e6 with e6 _ e7
  subst e6 e7
  have HR6 := hide hr6
  have HRI := hide (unhide HW).rises
  have HW8 : Hid (W.length ≤ 4096) := by show _ ≤ _; omega
  clear hr5 hr6
  go_loopw [30] (fun s wr => ∃ k : Nat, k ≤ xs.length ∧ s = .int .i64 (k : Int) ∧ wr.rowIs w5.heap.size 73 xs.length (numF ns k) ∧ Below w5.heap.size w5 wr) (fun s _ => xs.length - (intOf s).toNat)
  case atStart => exact ⟨0, Nat.zero_le _, rfl, (World.rowIs_made w5 (.int .u64 0) xs.length 73).congr fun j hj => by simp [numF], below_alloc (Below.refl _ _) _⟩
  case round =>
    obtain ⟨k, hk, rfl, hr, hb⟩ := hrel
    by_cases h8 : k < xs.length
    · have h9 : (k : Int) < (xs.length : Int) := by omega
      obtain ⟨x, hx⟩ : ∃ x, xs[k]? = some x := ⟨_, List.getElem?_eq_getElem h8⟩
      rcases (unhide HR5).later hb with e | ⟨rb, ro, rfl, hc⟩
      · rw [e] at hx; cases hx
      obtain ⟨c0, c1, c2⟩ := hc k x hx
      have bl := below_alloc (Below.refl _ wr) (.cells #[.int .i64 x.k, .int .i64 x.n, .string x.s] 59)
      have HP := hide (vpos_any a6 c6 W x (wr.alloc (.cells #[.int .i64 x.k, .int .i64 x.n, .string x.s] 59)) (by have := unhide HW8; omega) ((unhide HR6).later (below_step hb bl)) (unhide HRI))
      rw [Val.open_] at HP
      have hpl : posN W x ≤ 4096 := Nat.le_trans (Nat.le_of_lt (posN_lt ((unhide HW).mem (List.mem_of_getElem? hx)))) (unhide HW8)
      have hnk : ns[k]? = some (posN W x) := by rw [unhide hns]; simp [hx]
      have HM := hide (numF_next hnk)
      generalize posN W x = pp at *
      have HR2 := hide (hr.alloc (.cells #[.int .i64 x.k, .int .i64 x.n, .string x.s] 59))
      have HB2 := hide (below_step hb bl)
      have hszr := hb.size
      have hltr := hr.lt
      have FACT : Hid (∀ w9, Below (wr.alloc (.cells #[.int .i64 x.k, .int .i64 x.n, .string x.s] 59)).heap.size (wr.alloc (.cells #[.int .i64 x.k, .int .i64 x.n, .string x.s] 59)) w9 → Hid (w9.rowIs w5.heap.size 73 xs.length (numF ns k)) ∧ Hid (Below w5.heap.size w5 w9) ∧ w9.cell? ⟨w5.heap.size, k, none⟩ = some (.int .u64 0) ∧ w9.frozen? ⟨w5.heap.size, k, none⟩ = false) := fun w9 h => by
        have h3 := rowIs_later (unhide HR2) h
        exact ⟨h3, below_step (unhide HB2) h, by rw [h3.cell h8]; simp [numF], h3.frozen k⟩
      clear hc hx hr hb bl hnk
      go_wp2_with (go_at_call 144; refine (unhide HP).mono ?_; rintro e w9 ⟨⟨f, rfl⟩, hb9⟩; obtain ⟨HR9, HB9, cm, fm⟩ := unhide FACT _ hb9; clear hb9)
      go_roundw
      case rel =>
        refine ⟨k + 1, by omega, by go_num, ((unhide HR9).set k (.int .u64 (pp : Int))).congr fun j hj => ?_, (unhide HB9).setCell (p := ⟨w5.heap.size, k, none⟩) (Nat.le_refl _) _⟩
        rw [unhide HM j]
      case measure => first | (simp [intOf]; omega) | (simp only [intOf]; omega)
    · have h9 : ¬ (k : Int) < (xs.length : Int) := by omega
      have hk8 : k = xs.length := by omega
      rw [hk8, ← unhide HNL] at hr
      have hlis := numF_lis hr
      have H7 : Hid (Calls Tryz.prog 139 #[v8, .slice (some ⟨w5.heap.size, 0, none⟩) xs.length xs.length, .int .i64 (bl (W.length - 1) : Nat)] wr fun e w' => ∃ v3, e = .returned v3 ∧ OwnB w' base v3 (zs ++ wordsB W xs) ∧ Grew w w' v v3) := by
        obtain ⟨o1, o2, o3⟩ := unhide q7
        have hpl := plains_len4 W (fun x hx => unhide HS x ((unhide HW).sub hx)) (unhide HW8)
        have hd : bl (W.length - 1) ≤ 64 := bl_le (Nat.lt_of_le_of_lt (show W.length - 1 ≤ 4096 by have := unhide HW8; omega) (by decide))
        have := apbits_any base _ (some ⟨w5.heap.size, 0, none⟩) xs.length ns (bl (W.length - 1)) v8 wr (own_later o1 hb) (by rw [List.length_append, List.length_append, beL_len]; omega) (by rw [unhide HNL]; omega) hd (fun n hn => by
          rw [unhide hns] at hn
          obtain ⟨x, hx, rfl⟩ := List.mem_map.1 hn
          have h1 := posN_lt ((unhide HW).mem hx)
          exact Nat.lt_of_le_of_lt (by omega) (bl_lt (W.length - 1))) (by have := o3.1.size; have := hb.size; omega) hlis (fun ad e => by
          injection e with e
          subst e
          intro h3
          have := (ownB_lt o1 h3).2
          simp at this)
        rw [unhide HNL] at this
        refine this.mono fun e w' ⟨v3, he, h5, h6⟩ => ⟨v3, he, ?_, (o3.trans (Grew.of_below hb v8)).trans h6⟩
        rw [unhide hns] at h5
        rw [wordsB, ← List.append_assoc]
        exact h5
      have HWD := hide (fun W' => widthof_any W.length W' (by have := unhide HW8; omega))
      generalize bl (W.length - 1) = D at *
      clear hr hb hlis hk8
      go_wp2_with (first
        | (go_at_call 145; refine (unhide HWD _).mono ?_; rintro e w2 ⟨rfl, rfl⟩)
        | (go_at_call 139; refine (unhide H7).mono ?_; rintro e w3 ⟨v3, rfl, h5, h6⟩))
      go_ret
      exact ⟨_, _, unhide HW, rfl, h5, h6⟩
end Go.Proofs.YthbfomcmjjnikaaGreat

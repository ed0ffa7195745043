import Derived.Test.YtjnggnhgambmkaaGreatRdG
import Derived.Test.YtjnggnhgambmkaaGreatPackR
set_option linter.unusedSimpArgs false
set_option linter.unusedVariables false
namespace Go.Proofs.YtjnggnhgambmkaaGreat
open Go.RowKit Go.Sort

theorem nulls_any (b count : Nat) (l : List UInt8) (w : World) (hc : count ≤ 4096) (h : Rd w b l) (hl : l.length ≤ 140737488355328) :
    Calls Tryz.prog 55 #[.pointer (some ⟨b, 0, none⟩), .int .i64 count] w fun e w' => NullsR w w' e b count (nullsD count l) := by
  have no : ∀ {o}, o = none → (Calls Tryz.prog 55 #[.pointer (some ⟨b, 0, none⟩), .int .i64 count] w fun e w' => e = dmg ∧ Gr w w' b) → Calls Tryz.prog 55 #[.pointer (some ⟨b, 0, none⟩), .int .i64 count] w fun e w' => NullsR w w' e b count o :=
    fun ho hcall => hcall.mono fun e w' ⟨he, hg⟩ => .inr ⟨ho, he, hg⟩
  cases hn : numD 1 l with
  | none => exact no (by unfold nullsD; rw [hn]; rfl) (nulls_num hc h hl hn)
  | some p =>
    obtain ⟨m, r⟩ := p
    by_cases h0 : m = 0
    · subst h0
      have e : nullsD count l = some (List.replicate count false, r) := by unfold nullsD; rw [hn]; rfl
      rw [e]; exact nulls_zero hc h hl hn
    · by_cases h1 : m = 1
      · subst h1
        cases hb : bitsD count 1 r with
        | none => exact no (by unfold nullsD; rw [hn, Option.bind_some, if_neg Nat.one_ne_zero, if_pos rfl, hb]; rfl) (nulls_bits hc h hl hn hb)
        | some q =>
          obtain ⟨t, r2⟩ := q
          refine nulls_one hc h hl hn hb _ ?_
          show nullsD count l = _
          unfold nullsD; rw [hn, Option.bind_some, if_neg Nat.one_ne_zero, if_pos rfl, hb]; rfl
      · exact no (by unfold nullsD; rw [hn, Option.bind_some, if_neg h0, if_neg h1]) (nulls_mark hc h hl hn (by omega))
def spreadL : List Bool → List Val → List Val
  | [], _ => []
  | true :: nl, vs => .null :: spreadL nl vs
  | false :: nl, vs => vs.headD .null :: spreadL nl vs.tail
def cntF (nl : List Bool) (k : Nat) : Nat := (nl.take k).count false
theorem cntF_next {nl : List Bool} {k : Nat} {x : Bool} (h : nl[k]? = some x) : cntF nl (k + 1) = cntF nl k + (if x then 0 else 1) := by
  obtain ⟨h1, rfl⟩ := List.getElem?_eq_some_iff.1 h
  unfold cntF
  rw [List.take_succ_eq_append_getElem h1, List.count_append]
  cases nl[k] <;> simp
theorem cntF_lt {nl : List Bool} {k : Nat} (h : nl[k]? = some false) : cntF nl k < nl.count false := by
  have h1 := cntF_next h
  have h2 : cntF nl (k + 1) ≤ nl.count false := (List.take_sublist _ _).count_le _
  simp at h1; omega
theorem spread_len : ∀ (nl : List Bool) (vs : List Val), (spreadL nl vs).length = nl.length
  | [], _ => rfl
  | true :: nl, vs => by simp [spreadL, spread_len nl vs]
  | false :: nl, vs => by simp [spreadL, spread_len nl vs.tail]
theorem spread_at : ∀ (nl : List Bool) (vs : List Val) (k : Nat) (x : Bool), nl[k]? = some x → (spreadL nl vs)[k]? = some (if x then .null else vs.getD (cntF nl k) .null)
  | [], _, k, x, h => by cases h
  | true :: nl, vs, 0, x, h => by injection h with h; subst h; rfl
  | false :: nl, vs, 0, x, h => by injection h with h; subst h; cases vs <;> rfl
  | true :: nl, vs, k + 1, x, h => by
    have := spread_at nl vs k x (by simpa using h)
    simpa [spreadL, cntF] using this
  | false :: nl, vs, k + 1, x, h => by
    have := spread_at nl vs.tail k x (by simpa using h)
    rw [spreadL, List.getElem?_cons_succ, this]
    cases x
    · simp only [cntF, List.take_succ_cons, List.count_cons, Bool.false_eq_true, if_false, beq_self_eq_true, if_true]
      cases vs <;> simp
    · rfl
/-- Zero values from k on. -/
def Z3 (F : Nat → Value) (k n : Nat) : Prop := ∀ i, k ≤ i → i < n → F (i * 3) = .int .i64 0 ∧ F (i * 3 + 1) = .int .i64 0 ∧ F (i * 3 + 2) = .string ⟨#[]⟩
theorem Z3.step {F : Nat → Value} {k n : Nat} (h : Z3 F k n) (a b c : Value) : Z3 (fun j => if j = k * 3 + 2 then c else if j = k * 3 + 1 then b else if j = k * 3 then a else F j) (k + 1) n := by
  intro i h1 h2
  obtain ⟨g0, g1, g2⟩ := h i (by omega) h2
  refine ⟨?_, ?_, ?_⟩
  · show (if i * 3 = k * 3 + 2 then _ else if i * 3 = k * 3 + 1 then _ else if i * 3 = k * 3 then _ else _) = _
    rw [if_neg (by omega), if_neg (by omega), if_neg (by omega), g0]
  · show (if i * 3 + 1 = k * 3 + 2 then _ else if i * 3 + 1 = k * 3 + 1 then _ else if i * 3 + 1 = k * 3 then _ else _) = _
    rw [if_neg (by omega), if_neg (by omega), if_neg (by omega), g1]
  · show (if i * 3 + 2 = k * 3 + 2 then _ else if i * 3 + 2 = k * 3 + 1 then _ else if i * 3 + 2 = k * 3 then _ else _) = _
    rw [if_neg (by omega), if_neg (by omega), if_neg (by omega), g2]
theorem made3 (w : World) (n : Nat) : ∃ F, (w.alloc (.cells (madeCells #[.int .i64 0, .int .i64 0, .string ⟨#[]⟩] (n * 3)) 38)).rowIs w.heap.size 38 (n * 3) F ∧ Z3 F 0 n := by
  refine ⟨fun j => (madeCells #[.int .i64 0, .int .i64 0, .string ⟨#[]⟩] (n * 3))[j]?.getD undef, ?_, ?_⟩
  · have := World.rowIs_alloc w (madeCells #[.int .i64 0, .int .i64 0, .string ⟨#[]⟩] (n * 3)) 38 (fun j => (madeCells #[.int .i64 0, .int .i64 0, .string ⟨#[]⟩] (n * 3))[j]?.getD undef) (fun i hi => by rw [Array.getElem?_eq_getElem hi]; rfl)
    rw [size_madeCells] at this
    exact this
  · intro i _ h2
    refine ⟨?_, ?_, ?_⟩
    · simp only [madeCells, Array.getElem?_map, Array.getElem?_range]
      rw [if_pos (by omega)]
      simp [Nat.mul_mod_left]
    · simp only [madeCells, Array.getElem?_map, Array.getElem?_range]
      rw [if_pos (by omega)]
      simp [Nat.mul_add_mod']
    · simp only [madeCells, Array.getElem?_map, Array.getElem?_range]
      rw [if_pos (by omega)]
      simp [Nat.mul_add_mod']
/-- A row of values that is filled: what is known of it. -/
def Fill (w : World) (g n k : Nat) (ys : List Val) : Prop := ∃ F, w.rowIs g 38 (n * 3) F ∧ Holds3 F k ys ∧ Z3 F k n
theorem Fill.start (w : World) (n : Nat) (ys : List Val) : Fill (w.alloc (.cells (madeCells #[.int .i64 0, .int .i64 0, .string ⟨#[]⟩] (n * 3)) 38)) w.heap.size n 0 ys := by
  obtain ⟨F, h1, h2⟩ := made3 w n
  exact ⟨F, h1, Holds3.zero _ _, h2⟩
theorem Fill.put {w : World} {g n k : Nat} {ys : List Val} {y : Val} (h : Fill w g n k ys) (hy : ys[k]? = some y) :
    Fill (((w.setCell ⟨g, k * 3, none⟩ (.int .i64 y.k)).setCell ⟨g, k * 3 + 1, none⟩ (.int .i64 y.n)).setCell ⟨g, k * 3 + 2, none⟩ (.string y.s)) g n (k + 1) ys := by
  obtain ⟨F, h1, h2, h3⟩ := h
  exact ⟨_, ((h1.set _ _).set _ _).set _ _, h2.step hy, h3.step _ _ _⟩
theorem Fill.skip {w : World} {g n k : Nat} {ys : List Val} (h : Fill w g n k ys) (hy : ys[k]? = some .null) (hk : k < n) : Fill w g n (k + 1) ys := by
  obtain ⟨F, h1, h2, h3⟩ := h
  refine ⟨F, h1, fun i x hi hx => ?_, fun i a c => h3 i (by omega) c⟩
  by_cases e : i = k
  · subst e
    rw [hy] at hx; injection hx with hx; subst hx
    exact h3 i (Nat.le_refl _) hk
  · exact h2 i x (by omega) hx
theorem Fill.grx {w w' : World} {g n k B : Nat} {ys : List Val} (h : Fill w g n k ys) (hg : Gr w w' B) (hne : g ≠ B) : Fill w' g n k ys := by
  obtain ⟨F, h1, h2⟩ := h
  exact ⟨F, row_grx h1 hg hne, h2⟩
theorem Fill.cells {w : World} {g n k : Nat} {ys : List Val} (h : Fill w g n k ys) (hk : k < n) : w.cell? ⟨g, k * 3, none⟩ = some (.int .i64 0) ∧ w.cell? ⟨g, k * 3 + 1, none⟩ = some (.int .i64 0) ∧ w.cell? ⟨g, k * 3 + 2, none⟩ = some (.string ⟨#[]⟩) ∧
    w.frozen? ⟨g, k * 3, none⟩ = false ∧ w.frozen? ⟨g, k * 3 + 1, none⟩ = false ∧ w.frozen? ⟨g, k * 3 + 2, none⟩ = false := by
  obtain ⟨F, h1, h2, h3⟩ := h
  obtain ⟨a, b, c⟩ := h3 k (Nat.le_refl _) hk
  have := three (k := k) h1 (by omega)
  rw [a, b, c] at this
  exact this
theorem Fill.own {w : World} {g n B : Nat} {ys : List Val} (h : Fill w g n n ys) (hl : ys.length = n) (hB : B ≤ g) (hn : n ≤ 100000) : OwnV w B (.slice (some ⟨g, 0, none⟩) n n) ys := by
  obtain ⟨F, h1, h2, h3⟩ := h
  exact own_of_row h1 hl h2 hB (by unfold maxLen; omega)
theorem RowAt.lo {w : World} {a : Option Addr} {xs : List Val} {k : Nat} {x : Val} (h : RowAt w a xs) (hx : xs[k]? = some x) : ∃ b off, a = some ⟨b, off, none⟩ ∧ w.cell? ⟨b, off + k * 3, none⟩ = some (.int .i64 x.k) ∧ w.cell? ⟨b, off + k * 3 + 1, none⟩ = some (.int .i64 x.n) ∧ w.cell? ⟨b, off + k * 3 + 2, none⟩ = some (.string x.s) := by
  rcases h with e | ⟨b, off, rfl, hc⟩
  · rw [e] at hx; cases hx
  · exact ⟨b, off, rfl, hc k x hx⟩
set_option maxHeartbeats 1000000 in
set_option maxRecDepth 100000 in
theorem spread_any (g n : Nat) (nl : List Bool) (a : Option Addr) (c : Nat) (vs : List Val) (w : World) (hn : n ≤ 4096) (hnl : nl.length = n) (hg : w.rowIs g 4 n (fun j => .bool (nl.getD j false))) (ha : RowAt w a vs) (hcnt : nl.count false = vs.length) :
    Calls Tryz.prog 57 #[.slice (some ⟨g, 0, none⟩) n n, .slice a vs.length c] w fun e w' => ∃ v, e = .returned v ∧ OwnV w' w.heap.size v (spreadL nl vs) ∧ Below w.heap.size w w' := by
  obtain ⟨i4, hi4, z40, z41, z42⟩ := info_parts Tryz.info38
  have HA := hide ha
  have HG := hide hg
  have hgl := hg.lt
  have hvl : vs.length ≤ n := by rw [← hcnt, ← hnl]; exact List.count_le_length
  clear ha hg
  go_enter Tryz.func57, Tryz.ntmps57
  go_wp2_with (first
    | (at_make; refine wpList_make_rows _ rfl (.tmp 10) (.tmp 10) 22 rfl 38 i4 _ Tryz.underlying22 hi4 z40 3 z41 .i64 .i64 n rfl rfl (by rw [z42]; omega) (by omega) ?_)
    | fail)
  go_loopw [6, 14] (fun s i wr => ∃ k : Nat, k ≤ n ∧ i = .int .i64 (k : Int) ∧ s = .int .i64 (cntF nl k : Nat) ∧ Fill wr w.heap.size n k (spreadL nl vs) ∧ Below w.heap.size w wr) (fun _ i _ => n - (intOf i).toNat)
  case atStart => exact ⟨0, Nat.zero_le _, rfl, rfl, Fill.start _ _ _, below_alloc (Below.refl _ _) _⟩
  case round =>
    obtain ⟨k, hk, rfl, rfl, hf, hb⟩ := hrel
    by_cases hlt : k < n
    · have h9 : (k : Int) < (n : Int) := by omega
      obtain ⟨x, hx⟩ : ∃ x, nl[k]? = some x := ⟨_, List.getElem?_eq_getElem (by omega)⟩
      have cg := (rowIs_later (unhide HG) hb).cell hlt
      have e1 : nl.getD k false = x := by rw [List.getD_eq_getElem?_getD, hx]; rfl
      rw [e1] at cg
      have hsp := spread_at nl vs k x hx
      have hcn := cntF_next hx
      cases x
      · have hcl := cntF_lt hx
        rw [hcnt] at hcl
        obtain ⟨y, hy⟩ : ∃ y, vs[cntF nl k]? = some y := ⟨_, List.getElem?_eq_getElem hcl⟩
        obtain ⟨vb, vo, rfl, c0, c1, c2⟩ := ((unhide HA).later hb).lo hy
        have e2 : vs.getD (cntF nl k) .null = y := by rw [List.getD_eq_getElem?_getD, hy]; rfl
        rw [e2] at hsp
        obtain ⟨p0, p1, p2, q0, q1, q2⟩ := hf.cells hlt
        have HF := hide (hf.put hsp)
        have HCN : Hid (cntF nl (k + 1) = cntF nl k + 1) := hcn
        have hcl2 : (cntF nl k : Int) < (vs.length : Int) := by omega
        have HB := hide hb
        generalize cntF nl k = m at *
        clear hf hb hsp hcn e1 e2 hx hy
        go_wp2
        go_roundw
        case rel => exact ⟨k + 1, by omega, by go_num, by rw [unhide HCN]; go_num, unhide HF, (((unhide HB).setCell (p := ⟨w.heap.size, k * 3, none⟩) (Nat.le_refl _) _).setCell (p := ⟨w.heap.size, k * 3 + 1, none⟩) (Nat.le_refl _) _).setCell (p := ⟨w.heap.size, k * 3 + 2, none⟩) (Nat.le_refl _) _⟩
        case measure => simp [intOf]; omega
      · have HF := hide (hf.skip hsp hlt)
        have HCN : Hid (cntF nl (k + 1) = cntF nl k) := hcn
        have HB := hide hb
        generalize cntF nl k = m at *
        clear hf hb hsp hcn e1 hx
        go_wp2
        go_roundw
        case rel => exact ⟨k + 1, by omega, by go_num, by rw [unhide HCN], unhide HF, unhide HB⟩
        case measure => simp [intOf]; omega
    · have h9 : ¬ (k : Int) < (n : Int) := by omega
      have ek : k = n := by omega
      subst ek
      have HE : Hid (OwnV wr w.heap.size (.slice (some ⟨w.heap.size, 0, none⟩) k k) (spreadL nl vs) ∧ Below w.heap.size w wr) := ⟨hf.own (by rw [spread_len, hnl]) (Nat.le_refl _) (by omega), hb⟩
      clear hf hb
      generalize cntF nl k = m
      go_wp2
      go_ret
      exact ⟨_, rfl, unhide HE⟩
end Go.Proofs.YtjnggnhgambmkaaGreat

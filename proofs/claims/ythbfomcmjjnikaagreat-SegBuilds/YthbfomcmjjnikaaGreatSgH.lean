import Derived.Test.YthbfomcmjjnikaaGreatSgD
set_option linter.unusedSimpArgs false
set_option linter.unusedVariables false
namespace Go.Proofs.YthbfomcmjjnikaaGreat
open Go.RowKit Go.Sort

/-- A slice of rows, as it lies in memory. -/
def RowsAt (w : World) (a : Option Addr) (rs : List (List Val)) : Prop :=
  rs = [] ∨ ∃ b off, a = some ⟨b, off, none⟩ ∧ ∀ i r, rs[i]? = some r → ∃ ra rc, w.cell? ⟨b, off + i, none⟩ = some (.slice ra r.length rc) ∧ RowAt w ra r
theorem RowsAt.later {w w' : World} {a : Option Addr} {rs : List (List Val)} (h : RowsAt w a rs) (hb : Below w.heap.size w w') : RowsAt w' a rs := by
  rcases h with h | ⟨b, off, ha, h⟩
  · exact .inl h
  · exact .inr ⟨b, off, ha, fun i r hr => by obtain ⟨ra, rc, h1, h2⟩ := h i r hr; exact ⟨ra, rc, cell_later hb h1, h2.later hb⟩⟩
theorem lis_get {w : World} {a : Option Addr} {cs : List Value} {k : Nat} {v : Value} (h : LisAt w a cs) (hv : cs[k]? = some v) : ∃ b o, a = some ⟨b, o, none⟩ ∧ w.cell? ⟨b, o + k, none⟩ = some v := by
  rcases h with h | ⟨b, o, e, h⟩
  · subst h; simp at hv
  · exact ⟨b, o, e, h k v hv⟩
theorem row_get {w : World} {a : Option Addr} {xs : List Val} {k : Nat} {x : Val} (h : RowAt w a xs) (hv : xs[k]? = some x) : ∃ b o, a = some ⟨b, o, none⟩ ∧ w.cell? ⟨b, o + k * 3, none⟩ = some (.int .i64 x.k) ∧ w.cell? ⟨b, o + k * 3 + 1, none⟩ = some (.int .i64 x.n) ∧ w.cell? ⟨b, o + k * 3 + 2, none⟩ = some (.string x.s) := by
  rcases h with h | ⟨b, o, e, h⟩
  · subst h; simp at hv
  · exact ⟨b, o, e, h k x hv⟩
theorem rows_get {w : World} {a : Option Addr} {rs : List (List Val)} {k : Nat} {r : List Val} (h : RowsAt w a rs) (hv : rs[k]? = some r) : ∃ b o, a = some ⟨b, o, none⟩ ∧ ∃ ra rc, w.cell? ⟨b, o + k, none⟩ = some (.slice ra r.length rc) ∧ RowAt w ra r := by
  rcases h with h | ⟨b, o, e, h⟩
  · subst h; simp at hv
  · exact ⟨b, o, e, h k r hv⟩

/-- What a test answers. -/
def TestI (W : World) (F : Value) (p : Int → Bool) : Prop := ∃ n k, F = .func (.func n) #[] k ∧ (∀ args w, (callFunc n args).run Tryz.prog w = .ok (.enter n args) w) ∧ ∀ (x : Int) (W' : World), Below W.heap.size W W' → Calls Tryz.prog n (#[.int .i64 x] ++ k) W' fun r w' => r = .returned (.bool (p x)) ∧ Below W'.heap.size W' w'
set_option maxHeartbeats 400000 in
set_option maxRecDepth 100000 in
theorem indexI_any (F : Value) (p : Int → Bool) (a : Option Addr) (c : Nat) (l : List Int) (w : World) (hl : l.length ≤ 140737488355328) (ha : LisAt w a (l.map (Value.int .i64)) ) (hF : TestI w F p) :
    Calls Tryz.prog 47 #[.slice a l.length c, F] w fun e w' => ∃ r, e = .returned (.int .i64 r) ∧ Hid (decide (0 ≤ r) = l.any p) ∧ Below w.heap.size w w' := by
  have HA := hide ha
  obtain ⟨nf, kf, rfl, ent, HP⟩ := hF
  have HC := hide HP
  clear ha HP
  go_enter Tryz.func47, Tryz.ntmps47
  go_wp2_with fail
  go_loopw [8] (fun i wr => ∃ k : Nat, k ≤ l.length ∧ i = .int .i64 (k : Int) ∧ Hid (∀ i x, i < k → l[i]? = some x → p x = false) ∧ Below w.heap.size w wr) (fun i _ => l.length - (intOf i).toNat)
  case atStart => exact ⟨0, Nat.zero_le _, rfl, fun i x hi => absurd hi (by omega), Below.refl _ _⟩
  case round =>
    obtain ⟨k, hk, rfl, HN, hb⟩ := hrel
    by_cases hlt : k < l.length
    · have h9 : (k : Int) < (l.length : Int) := by omega
      obtain ⟨x, hx⟩ : ∃ x, l[k]? = some x := ⟨_, List.getElem?_eq_getElem hlt⟩
      obtain ⟨vb, vo, ea, hat⟩ := lis_get ((unhide HA).later hb) (show (l.map (Value.int .i64))[k]? = some (.int .i64 x) by simp [hx])
      have HX := hide (unhide HC x wr hb)
      subst ea
      have HB := hide hb
      clear hb
      cases hp : p x
      · have HE : Hid (∀ i y, i < k + 1 → l[i]? = some y → p y = false) := fun i y hi hy => by
          by_cases e : i = k
          · subst e; rw [hx] at hy; injection hy with hy; rw [← hy]; exact hp
          · exact unhide HN i y (by omega) hy
        rw [hp] at HX
        clear hx HN hp
        go_wp2_with (refine (unhide HX).mono ?_; rintro r w1 ⟨rfl, hb1⟩)
        exact ⟨⟨k + 1, by omega, by go_num, HE, below_step (unhide HB) hb1⟩, by simp [intOf]; omega⟩
      · have HE : Hid (decide ((0 : Int) ≤ (k : Int)) = l.any p) := by
          show _ = _
          rw [List.any_eq_true.2 ⟨x, List.mem_of_getElem? hx, hp⟩]
          simp
        rw [hp] at HX
        clear hx HN hp
        go_wp2_with (refine (unhide HX).mono ?_; rintro r w1 ⟨rfl, hb1⟩)
        go_ret
        exact ⟨_, rfl, HE, below_step (unhide HB) hb1⟩
    · have h9 : ¬ (k : Int) < (l.length : Int) := by omega
      have HE : Hid (decide ((0 : Int) ≤ -1) = l.any p) := by
        show _ = _
        rw [List.any_eq_false.2 fun x hx => by
          obtain ⟨i, hi, e⟩ := List.mem_iff_getElem.1 hx
          rw [unhide HN i x (by omega) (by rw [List.getElem?_eq_getElem hi, e])]
          simp]
        rfl
      have HB := hide hb
      clear HN hb
      go_wp2
      go_ret
      exact ⟨_, rfl, HE, unhide HB⟩
theorem containsI_any (F : Value) (p : Int → Bool) (a : Option Addr) (c : Nat) (l : List Int) (w : World) (hl : l.length ≤ 140737488355328) (ha : LisAt w a (l.map (Value.int .i64))) (hF : TestI w F p) :
    Calls Tryz.prog 22 #[.slice a l.length c, F] w fun e w' => e = .returned (.bool (l.any p)) ∧ Below w.heap.size w w' := by
  have HI := hide (indexI_any F p a c l w hl ha hF)
  clear ha
  generalize l.any p = r at *
  go_enter Tryz.func22, Tryz.ntmps22
  go_wp2_with (go_at_call 47; refine (unhide HI).mono ?_; rintro e w1 ⟨q, rfl, hq, hb⟩; have hq' := unhide hq)
  go_ret
  exact ⟨by simp [hq'], hb⟩

/-- What a test answers. -/
def TestX (W : World) (F : Value) (p : Val → Bool) : Prop := ∃ n k, F = .func (.func n) #[] k ∧ (∀ args w, (callFunc n args).run Tryz.prog w = .ok (.enter n args) w) ∧ ∀ (x : Val) (W' : World), Below W.heap.size W W' → Calls Tryz.prog n (#[x.v] ++ k) W' fun r w' => r = .returned (.bool (p x)) ∧ Below W'.heap.size W' w'
set_option maxHeartbeats 400000 in
set_option maxRecDepth 100000 in
theorem indexX_any (F : Value) (p : Val → Bool) (a : Option Addr) (c : Nat) (l : List Val) (w : World) (hl : l.length ≤ 140737488355328) (ha : RowAt w a l ) (hF : TestX w F p) :
    Calls Tryz.prog 74 #[.slice a l.length c, F] w fun e w' => ∃ r, e = .returned (.int .i64 r) ∧ Hid (decide (0 ≤ r) = l.any p) ∧ Below w.heap.size w w' := by
  have HA := hide ha
  obtain ⟨nf, kf, rfl, ent, HP⟩ := hF
  have HC := hide HP
  clear ha HP
  go_enter Tryz.func74, Tryz.ntmps74
  go_wp2_with fail
  go_loopw [8] (fun i wr => ∃ k : Nat, k ≤ l.length ∧ i = .int .i64 (k : Int) ∧ Hid (∀ i x, i < k → l[i]? = some x → p x = false) ∧ Below w.heap.size w wr) (fun i _ => l.length - (intOf i).toNat)
  case atStart => exact ⟨0, Nat.zero_le _, rfl, fun i x hi => absurd hi (by omega), Below.refl _ _⟩
  case round =>
    obtain ⟨k, hk, rfl, HN, hb⟩ := hrel
    by_cases hlt : k < l.length
    · have h9 : (k : Int) < (l.length : Int) := by omega
      obtain ⟨x, hx⟩ : ∃ x, l[k]? = some x := ⟨_, List.getElem?_eq_getElem hlt⟩
      obtain ⟨vb, vo, ea, d0, d1, d2⟩ := row_get ((unhide HA).later hb) hx
      have HX := hide (unhide HC x wr hb)
      rw [x.open_] at HX
      subst ea
      have HB := hide hb
      clear hb
      cases hp : p x
      · have HE : Hid (∀ i y, i < k + 1 → l[i]? = some y → p y = false) := fun i y hi hy => by
          by_cases e : i = k
          · subst e; rw [hx] at hy; injection hy with hy; rw [← hy]; exact hp
          · exact unhide HN i y (by omega) hy
        rw [hp] at HX
        clear hx HN hp
        go_wp2_with (refine (unhide HX).mono ?_; rintro r w1 ⟨rfl, hb1⟩)
        exact ⟨⟨k + 1, by omega, by go_num, HE, below_step (unhide HB) hb1⟩, by simp [intOf]; omega⟩
      · have HE : Hid (decide ((0 : Int) ≤ (k : Int)) = l.any p) := by
          show _ = _
          rw [List.any_eq_true.2 ⟨x, List.mem_of_getElem? hx, hp⟩]
          simp
        rw [hp] at HX
        clear hx HN hp
        go_wp2_with (refine (unhide HX).mono ?_; rintro r w1 ⟨rfl, hb1⟩)
        go_ret
        exact ⟨_, rfl, HE, below_step (unhide HB) hb1⟩
    · have h9 : ¬ (k : Int) < (l.length : Int) := by omega
      have HE : Hid (decide ((0 : Int) ≤ -1) = l.any p) := by
        show _ = _
        rw [List.any_eq_false.2 fun x hx => by
          obtain ⟨i, hi, e⟩ := List.mem_iff_getElem.1 hx
          rw [unhide HN i x (by omega) (by rw [List.getElem?_eq_getElem hi, e])]
          simp]
        rfl
      have HB := hide hb
      clear HN hb
      go_wp2
      go_ret
      exact ⟨_, rfl, HE, unhide HB⟩
theorem containsX_any (F : Value) (p : Val → Bool) (a : Option Addr) (c : Nat) (l : List Val) (w : World) (hl : l.length ≤ 140737488355328) (ha : RowAt w a l) (hF : TestX w F p) :
    Calls Tryz.prog 49 #[.slice a l.length c, F] w fun e w' => e = .returned (.bool (l.any p)) ∧ Below w.heap.size w w' := by
  have HI := hide (indexX_any F p a c l w hl ha hF)
  clear ha
  generalize l.any p = r at *
  go_enter Tryz.func49, Tryz.ntmps49
  go_wp2_with (go_at_call 74; refine (unhide HI).mono ?_; rintro e w1 ⟨q, rfl, hq, hb⟩; have hq' := unhide hq)
  go_ret
  exact ⟨by simp [hq'], hb⟩

/-- What a test answers. -/
def TestR (W : World) (F : Value) (p : List Val → Bool) (l : List (List Val)) : Prop := ∃ n k, F = .func (.func n) #[] k ∧ (∀ args w, (callFunc n args).run Tryz.prog w = .ok (.enter n args) w) ∧ ∀ (x : List Val) (a' : Option Addr) (c' : Nat) (W' : World), x ∈ l → Below W.heap.size W W' → RowAt W' a' x → Calls Tryz.prog n (#[.slice a' x.length c'] ++ k) W' fun r w' => r = .returned (.bool (p x)) ∧ Below W'.heap.size W' w'
set_option maxHeartbeats 400000 in
set_option maxRecDepth 100000 in
theorem indexR_any (F : Value) (p : List Val → Bool) (a : Option Addr) (c : Nat) (l : List (List Val)) (w : World) (hl : l.length ≤ 140737488355328) (ha : RowsAt w a l ) (hF : TestR w F p l) :
    Calls Tryz.prog 48 #[.slice a l.length c, F] w fun e w' => ∃ r, e = .returned (.int .i64 r) ∧ Hid (decide (0 ≤ r) = l.any p) ∧ Below w.heap.size w w' := by
  have HA := hide ha
  obtain ⟨nf, kf, rfl, ent, HP⟩ := hF
  have HC := hide HP
  clear ha HP
  go_enter Tryz.func48, Tryz.ntmps48
  go_wp2_with fail
  go_loopw [8] (fun i wr => ∃ k : Nat, k ≤ l.length ∧ i = .int .i64 (k : Int) ∧ Hid (∀ i x, i < k → l[i]? = some x → p x = false) ∧ Below w.heap.size w wr) (fun i _ => l.length - (intOf i).toNat)
  case atStart => exact ⟨0, Nat.zero_le _, rfl, fun i x hi => absurd hi (by omega), Below.refl _ _⟩
  case round =>
    obtain ⟨k, hk, rfl, HN, hb⟩ := hrel
    by_cases hlt : k < l.length
    · have h9 : (k : Int) < (l.length : Int) := by omega
      obtain ⟨x, hx⟩ : ∃ x, l[k]? = some x := ⟨_, List.getElem?_eq_getElem hlt⟩
      obtain ⟨vb, vo, ea, a', c', d0, hal⟩ := rows_get ((unhide HA).later hb) hx
      have HX := hide (unhide HC x a' c' wr (List.mem_of_getElem? hx) hb hal)
      subst ea
      have HB := hide hb
      clear hb
      cases hp : p x
      · have HE : Hid (∀ i y, i < k + 1 → l[i]? = some y → p y = false) := fun i y hi hy => by
          by_cases e : i = k
          · subst e; rw [hx] at hy; injection hy with hy; rw [← hy]; exact hp
          · exact unhide HN i y (by omega) hy
        rw [hp] at HX
        clear hx HN hp
        go_wp2_with (refine (unhide HX).mono ?_; rintro r w1 ⟨rfl, hb1⟩)
        exact ⟨⟨k + 1, by omega, by go_num, HE, below_step (unhide HB) hb1⟩, by simp [intOf]; omega⟩
      · have HE : Hid (decide ((0 : Int) ≤ (k : Int)) = l.any p) := by
          show _ = _
          rw [List.any_eq_true.2 ⟨x, List.mem_of_getElem? hx, hp⟩]
          simp
        rw [hp] at HX
        clear hx HN hp
        go_wp2_with (refine (unhide HX).mono ?_; rintro r w1 ⟨rfl, hb1⟩)
        go_ret
        exact ⟨_, rfl, HE, below_step (unhide HB) hb1⟩
    · have h9 : ¬ (k : Int) < (l.length : Int) := by omega
      have HE : Hid (decide ((0 : Int) ≤ -1) = l.any p) := by
        show _ = _
        rw [List.any_eq_false.2 fun x hx => by
          obtain ⟨i, hi, e⟩ := List.mem_iff_getElem.1 hx
          rw [unhide HN i x (by omega) (by rw [List.getElem?_eq_getElem hi, e])]
          simp]
        rfl
      have HB := hide hb
      clear HN hb
      go_wp2
      go_ret
      exact ⟨_, rfl, HE, unhide HB⟩
theorem containsR_any (F : Value) (p : List Val → Bool) (a : Option Addr) (c : Nat) (l : List (List Val)) (w : World) (hl : l.length ≤ 140737488355328) (ha : RowsAt w a l) (hF : TestR w F p l) :
    Calls Tryz.prog 24 #[.slice a l.length c, F] w fun e w' => e = .returned (.bool (l.any p)) ∧ Below w.heap.size w w' := by
  have HI := hide (indexR_any F p a c l w hl ha hF)
  clear ha
  generalize l.any p = r at *
  go_enter Tryz.func24, Tryz.ntmps24
  go_wp2_with (go_at_call 48; refine (unhide HI).mono ?_; rintro e w1 ⟨q, rfl, hq, hb⟩; have hq' := unhide hq)
  go_ret
  exact ⟨by simp [hq'], hb⟩

end Go.Proofs.YthbfomcmjjnikaaGreat
set_option linter.unusedSimpArgs false
set_option linter.unusedVariables false
namespace Go.Proofs.YthbfomcmjjnikaaGreat
open Go.RowKit Go.Sort

def noKB (k : Int) : Bool := (k != 1) && (k != 2)
theorem noKind_any (k : Int) (w : World) : Calls Tryz.prog 23 #[.int .i64 k] w fun e w' => e = .returned (.bool (noKB k)) ∧ w' = w := by
  unfold noKB
  cases h : (k != 1)
  · go_enter Tryz.func23, Tryz.ntmps23
    go_wp2
    go_ret
    exact ⟨by simp, rfl⟩
  · go_enter Tryz.func23, Tryz.ntmps23
    go_wp2
    go_ret
    exact ⟨by simp, rfl⟩
def largeTB (x : Val) : Bool := (x.k == 2) && decide (1000 < (x.s.size : Int))
theorem largeT_any (x : Val) (w : World) : Calls Tryz.prog 50 #[x.v] w fun e w' => e = .returned (.bool (largeTB x)) ∧ Below w.heap.size w w' := by
  unfold largeTB
  rw [x.open_]
  cases h : (x.k == 2)
  · go_enter Tryz.func50, Tryz.ntmps50
    go_wp2
    go_ret
    exact ⟨by simp, below_alloc (Below.refl _ _) _⟩
  · go_enter Tryz.func50, Tryz.ntmps50
    go_wp2
    go_ret
    exact ⟨by simp, below_alloc (Below.refl _ _) _⟩
set_option maxRecDepth 100000 in
theorem hasLarge_any (r : List Val) (a : Option Addr) (c : Nat) (w : World) (hl : r.length ≤ 140737488355328) (ha : RowAt w a r) : Calls Tryz.prog 25 #[.slice a r.length c] w fun e w' => e = .returned (.bool (r.any largeTB)) ∧ Below w.heap.size w w' := by
  have H := hide (containsX_any (.func (.func 50) #[] #[]) largeTB a c r w hl ha ⟨50, #[], rfl, fun _ _ => rfl, fun x W' _ => by simpa using largeT_any x W'⟩)
  clear ha
  go_enter Tryz.func25, Tryz.ntmps25
  go_wp2_with (first | (go_at_call 49; refine (unhide H).mono ?_; rintro _ w1 ⟨rfl, hb1⟩))
  go_ret
  exact ⟨rfl, hb1⟩
theorem len_any1 (n : Nat) (r : List Val) (a a2 : Option Addr) (c c2 b : Nat) (w : World) (h : w.cell? ⟨b, 0, none⟩ = some (.slice a2 n c2)) : Calls Tryz.prog 26 #[.slice a r.length c, .pointer (some ⟨b, 0, none⟩)] w fun e w' => e = .returned (.bool ((r.length : Int) != (n : Int))) ∧ w' = w := by
  go_enter Tryz.func26, Tryz.ntmps26
  go_wp2
  go_ret
  exact ⟨by simp, rfl⟩

/-- The values of a column that are laid in the first k places. -/
def VInv (w0 w : World) (n k : Nat) (ys : List Val) : Prop := Below w0.heap.size w0 w ∧ (∃ F, w.rowIs w0.heap.size 59 (n * 3) F ∧ Holds3 F k ys)
theorem VInv.start (w : World) (n : Nat) (ys : List Val) (z : Array Value) : VInv w (w.alloc (.cells (madeCells z (n * 3)) 59)) n 0 ys := by
  obtain ⟨F, hF⟩ := rowIs_any w (madeCells z (n * 3)) 59
  rw [size_madeCells] at hF
  exact ⟨below_alloc (Below.refl _ _) _, F, hF, Holds3.zero _ _⟩
theorem VInv.step {w0 w : World} {n k : Nat} {ys : List Val} {y : Val} (h : VInv w0 w n k ys) (hy : ys[k]? = some y) :
    VInv w0 (((w.setCell ⟨w0.heap.size, k * 3, none⟩ (.int .i64 y.k)).setCell ⟨w0.heap.size, k * 3 + 1, none⟩ (.int .i64 y.n)).setCell ⟨w0.heap.size, k * 3 + 2, none⟩ (.string y.s)) n (k + 1) ys := by
  obtain ⟨hb, ⟨F, hF, hF'⟩⟩ := h
  exact ⟨((hb.setCell (Nat.le_refl _) _).setCell (Nat.le_refl _) _).setCell (Nat.le_refl _) _, _, ((hF.set _ _).set _ _).set _ _, hF'.step hy⟩
def colL (rs : List (List Val)) (i : Nat) : List Val := rs.map fun r => r.getD i .null
theorem colL_at {rs : List (List Val)} {i k : Nat} {r : List Val} {x : Val} (h : rs[k]? = some r) (hx : r[i]? = some x) : (colL rs i)[k]? = some x := by simp [colL, h, hx]

set_option maxHeartbeats 4000000 in
set_option maxRecDepth 100000 in
theorem valuesIn_any (a : Option Addr) (c i : Nat) (rs : List (List Val)) (w : World) (hl : rs.length ≤ 4096) (hi : i ≤ 4096) (hr : ∀ r ∈ rs, i < r.length) (ha : RowsAt w a rs) :
    Calls Tryz.prog 28 #[.slice a rs.length c, .int .i64 (i : Int)] w fun e w' => ∃ a', e = .returned (.slice a' rs.length rs.length) ∧ RowAt w' a' (colL rs i) ∧ Below w.heap.size w w' := by
  obtain ⟨i4, hi4, z40, z41, z42⟩ := info_parts Tryz.info59
  have HA := hide ha
  have HR := hide hr
  clear ha hr
  go_enter Tryz.func28, Tryz.ntmps28
  go_wp2_with (first
    | (at_make; refine wpList_make_rows _ rfl (.tmp 9) (.tmp 9) 37 rfl 59 i4 _ Tryz.underlying37 hi4 z40 3 z41 .i64 .i64 rs.length rfl rfl (by rw [z42]; omega) (by omega) ?_)
    | fail)
  go_loopw [13] (fun s wr => ∃ k : Nat, k ≤ rs.length ∧ s = .int .i64 (k : Int) ∧ VInv w wr rs.length k (colL rs i)) (fun s _ => rs.length - (intOf s).toNat)
  case atStart => exact ⟨0, Nat.zero_le _, rfl, VInv.start _ _ _ _⟩
  case round =>
    obtain ⟨k, hk, rfl, hI⟩ := hrel
    have HI := hide hI
    obtain ⟨hb, ⟨F, hF, hF'⟩⟩ := hI
    have hz := hF.lt
    by_cases h1 : k < rs.length
    · have i1 : (k : Int) < (rs.length : Int) := by omega
      obtain ⟨r, hx⟩ : ∃ r, rs[k]? = some r := ⟨_, List.getElem?_eq_getElem h1⟩
      obtain ⟨vb, vo, rfl, ra, rc, c0, hra⟩ := rows_get ((unhide HA).later hb) hx
      have hir := unhide HR r (List.mem_of_getElem? hx)
      obtain ⟨x, hxi⟩ : ∃ x, r[i]? = some x := ⟨_, List.getElem?_eq_getElem hir⟩
      obtain ⟨rb, ro, rfl, d0, d1, d2⟩ := row_get hra hxi
      have i2 : (i : Int) < (r.length : Int) := by omega
      obtain ⟨p0, p1, p2, q0, q1, q2⟩ := three (k := k) hF (by omega)
      have HY := hide (colL_at hx hxi)
      clear hx hxi hra hF' hb
      go_wp2
      go_roundw
      case rel => exact ⟨k + 1, by omega, by go_num, (unhide HI).step (unhide HY)⟩
      case measure => simp [intOf]; omega
    · have e : k = rs.length := by omega
      have i1 : ¬ (k : Int) < (rs.length : Int) := by omega
      rw [e] at hF'
      clear HI e
      go_wp2
      go_ret
      exact ⟨_, rfl, row_of_row hF (by simp [colL]) hF', hb⟩
end Go.Proofs.YthbfomcmjjnikaaGreat
set_option linter.unusedSimpArgs false
set_option linter.unusedVariables false
namespace Go.Proofs.YthbfomcmjjnikaaGreat
open Go.RowKit Go.Sort

def oddB (n : Nat) (r : List Val) : Bool := (r.length : Int) != (n : Int)
/-- The three looks at the kinds and the rows, wherever they come. -/
structure Looks (w : World) (kinds : List Int) (ak : Option Addr) (ck : Nat) (rs : List (List Val)) (ar : Option Addr) (cr : Nat) : Prop where
  hk : ∀ W, Below w.heap.size w W → Calls Tryz.prog 22 #[.slice ak kinds.length ck, .func (.func 23) #[] #[]] W fun e w' => e = .returned (.bool (kinds.any noKB)) ∧ Below W.heap.size W w'
  hl : ∀ W, Below w.heap.size w W → Calls Tryz.prog 24 #[.slice ar rs.length cr, .func (.func 25) #[] #[]] W fun e w' => e = .returned (.bool (rs.any fun r => r.any largeTB)) ∧ Below W.heap.size W w'
  hn : ∀ W, Below w.heap.size w W → W.cell? ⟨w.heap.size, 0, none⟩ = some (.slice ak kinds.length ck) → Calls Tryz.prog 24 #[.slice ar rs.length cr, .func (.func 26) #[] #[.pointer (some ⟨w.heap.size, 0, none⟩)]] W fun e w' => e = .returned (.bool (rs.any (oddB kinds.length))) ∧ Below W.heap.size W w'
theorem looks (w : World) (kinds : List Int) (ak : Option Addr) (ck : Nat) (rs : List (List Val)) (ar : Option Addr) (cr : Nat) (h1 : kinds.length ≤ 140737488355328) (h2 : rs.length ≤ 140737488355328) (h3 : ∀ r ∈ rs, r.length ≤ 140737488355328) (hak : LisAt w ak (kinds.map (Value.int .i64))) (har : RowsAt w ar rs) : Looks w kinds ak ck rs ar cr := by
  refine ⟨fun W hW => ?_, fun W hW => ?_, fun W hW hc => ?_⟩
  · exact containsI_any (.func (.func 23) #[] #[]) noKB ak ck kinds W h1 (hak.later hW) ⟨23, #[], rfl, fun _ _ => by kernel_rfl, fun x W' hb => by
      refine (noKind_any x W').mono ?_
      rintro e w' ⟨rfl, rfl⟩
      exact ⟨rfl, Below.refl _ _⟩⟩
  · have hlen := h3
    refine containsR_any (.func (.func 25) #[] #[]) (fun r => r.any largeTB) ar cr rs W h2 (har.later hW) ⟨25, #[], rfl, fun _ _ => by kernel_rfl, fun x a' c' W' hm hb hx => ?_⟩
    exact hasLarge_any x a' c' W' (hlen x hm) hx
  · refine containsR_any (.func (.func 26) #[] #[.pointer (some ⟨w.heap.size, 0, none⟩)]) (oddB kinds.length) ar cr rs W h2 (har.later hW) ⟨26, _, rfl, fun _ _ => by kernel_rfl, fun x a' c' W' hm hb hx => ?_⟩
    refine (len_any1 kinds.length x a' ak c' ck w.heap.size W' (cell_later hb hc)).mono ?_
    rintro e w' ⟨rfl, rfl⟩
    exact ⟨rfl, Below.refl _ _⟩
set_option maxRecDepth 100000 in
theorem build_a1 (w : World) (kinds : List Int) (ak : Option Addr) (ck : Nat) (rs : List (List Val)) (ar : Option Addr) (cr : Nat) (C : Looks w kinds ak ck rs ar cr) (h : kinds.length < 1) :
    Calls Tryz.prog 5 #[.slice ak kinds.length ck, .slice ar rs.length cr] w fun e w' => e = .returned (.tuple #[.string ⟨#[]⟩, .int .i64 1]) ∧ Below w.heap.size w w' := by
  have hbx0 : (w.alloc (.cells #[.slice ak kinds.length ck] 22)).cell? ⟨w.heap.size, 0, none⟩ = some (.slice ak kinds.length ck) := by simp [go_sem]
  have HK := hide C.hk
  have HL := hide C.hl
  have HN := hide C.hn

  have i1 : (kinds.length : Int) < 1 := by omega
  go_enter Tryz.func5, Tryz.ntmps5
  go_wp2_with (first
    | (go_at_call 22; refine (unhide HK _ (below_alloc (Below.refl _ _) _)).mono ?_; rintro _ w1 ⟨rfl, hb1⟩; have hbx1 := cell_later hb1 hbx0)
    | (go_at_call 24; refine (unhide HN w2 ((below_one hb1).trans (hb2.mono (below_one hb1).size)) hbx2).mono ?_; rintro _ w3 ⟨rfl, hb3⟩; have hbx3 := cell_later hb3 hbx2)
    | (go_at_call 24; refine (unhide HL w1 (below_one hb1)).mono ?_; rintro _ w2 ⟨rfl, hb2⟩; have hbx2 := cell_later hb2 hbx1))
  refine bodyPost_ret (v := .tuple #[.string ⟨#[]⟩, .int .i64 1]) (by simp [results, Tryz.results5, go_sem]) rfl ⟨rfl, below_alloc (Below.refl _ _) _⟩

set_option maxRecDepth 100000 in
theorem build_a2 (w : World) (kinds : List Int) (ak : Option Addr) (ck : Nat) (rs : List (List Val)) (ar : Option Addr) (cr : Nat) (C : Looks w kinds ak ck rs ar cr) (h : 32 < kinds.length) :
    Calls Tryz.prog 5 #[.slice ak kinds.length ck, .slice ar rs.length cr] w fun e w' => e = .returned (.tuple #[.string ⟨#[]⟩, .int .i64 1]) ∧ Below w.heap.size w w' := by
  have hbx0 : (w.alloc (.cells #[.slice ak kinds.length ck] 22)).cell? ⟨w.heap.size, 0, none⟩ = some (.slice ak kinds.length ck) := by simp [go_sem]
  have HK := hide C.hk
  have HL := hide C.hl
  have HN := hide C.hn

  have i1 : ¬ (kinds.length : Int) < 1 := by omega
  have i2 : (32 : Int) < (kinds.length : Int) := by omega
  go_enter Tryz.func5, Tryz.ntmps5
  go_wp2_with (first
    | (go_at_call 22; refine (unhide HK _ (below_alloc (Below.refl _ _) _)).mono ?_; rintro _ w1 ⟨rfl, hb1⟩; have hbx1 := cell_later hb1 hbx0)
    | (go_at_call 24; refine (unhide HN w2 ((below_one hb1).trans (hb2.mono (below_one hb1).size)) hbx2).mono ?_; rintro _ w3 ⟨rfl, hb3⟩; have hbx3 := cell_later hb3 hbx2)
    | (go_at_call 24; refine (unhide HL w1 (below_one hb1)).mono ?_; rintro _ w2 ⟨rfl, hb2⟩; have hbx2 := cell_later hb2 hbx1))
  refine bodyPost_ret (v := .tuple #[.string ⟨#[]⟩, .int .i64 1]) (by simp [results, Tryz.results5, go_sem]) rfl ⟨rfl, below_alloc (Below.refl _ _) _⟩

set_option maxRecDepth 100000 in
theorem build_a3 (w : World) (kinds : List Int) (ak : Option Addr) (ck : Nat) (rs : List (List Val)) (ar : Option Addr) (cr : Nat) (C : Looks w kinds ak ck rs ar cr) (h1 : 1 ≤ kinds.length) (h2 : kinds.length ≤ 32) (h3 : kinds.any noKB = true) :
    Calls Tryz.prog 5 #[.slice ak kinds.length ck, .slice ar rs.length cr] w fun e w' => e = .returned (.tuple #[.string ⟨#[]⟩, .int .i64 1]) ∧ Below w.heap.size w w' := by
  have hbx0 : (w.alloc (.cells #[.slice ak kinds.length ck] 22)).cell? ⟨w.heap.size, 0, none⟩ = some (.slice ak kinds.length ck) := by simp [go_sem]
  have HK := hide C.hk
  have HL := hide C.hl
  have HN := hide C.hn
  rw [h3] at HK

  have i1 : ¬ (kinds.length : Int) < 1 := by omega
  have i2 : ¬ (32 : Int) < (kinds.length : Int) := by omega
  go_enter Tryz.func5, Tryz.ntmps5
  go_wp2_with (first
    | (go_at_call 22; refine (unhide HK _ (below_alloc (Below.refl _ _) _)).mono ?_; rintro _ w1 ⟨rfl, hb1⟩; have hbx1 := cell_later hb1 hbx0)
    | (go_at_call 24; refine (unhide HN w2 ((below_one hb1).trans (hb2.mono (below_one hb1).size)) hbx2).mono ?_; rintro _ w3 ⟨rfl, hb3⟩; have hbx3 := cell_later hb3 hbx2)
    | (go_at_call 24; refine (unhide HL w1 (below_one hb1)).mono ?_; rintro _ w2 ⟨rfl, hb2⟩; have hbx2 := cell_later hb2 hbx1))
  refine bodyPost_ret (v := .tuple #[.string ⟨#[]⟩, .int .i64 1]) (by simp [results, Tryz.results5, go_sem]) rfl ⟨rfl, below_one hb1⟩

set_option maxRecDepth 100000 in
theorem build_b1 (w : World) (kinds : List Int) (ak : Option Addr) (ck : Nat) (rs : List (List Val)) (ar : Option Addr) (cr : Nat) (C : Looks w kinds ak ck rs ar cr) (h1 : 1 ≤ kinds.length) (h2 : kinds.length ≤ 32) (h3 : kinds.any noKB = false) (h4 : 4096 < rs.length) :
    Calls Tryz.prog 5 #[.slice ak kinds.length ck, .slice ar rs.length cr] w fun e w' => e = .returned (.tuple #[.string ⟨#[]⟩, .int .i64 3]) ∧ Below w.heap.size w w' := by
  have hbx0 : (w.alloc (.cells #[.slice ak kinds.length ck] 22)).cell? ⟨w.heap.size, 0, none⟩ = some (.slice ak kinds.length ck) := by simp [go_sem]
  have HK := hide C.hk
  have HL := hide C.hl
  have HN := hide C.hn
  rw [h3] at HK

  have i1 : ¬ (kinds.length : Int) < 1 := by omega
  have i2 : ¬ (32 : Int) < (kinds.length : Int) := by omega
  have i3 : (4096 : Int) < (rs.length : Int) := by omega
  go_enter Tryz.func5, Tryz.ntmps5
  go_wp2_with (first
    | (go_at_call 22; refine (unhide HK _ (below_alloc (Below.refl _ _) _)).mono ?_; rintro _ w1 ⟨rfl, hb1⟩; have hbx1 := cell_later hb1 hbx0)
    | (go_at_call 24; refine (unhide HN w2 ((below_one hb1).trans (hb2.mono (below_one hb1).size)) hbx2).mono ?_; rintro _ w3 ⟨rfl, hb3⟩; have hbx3 := cell_later hb3 hbx2)
    | (go_at_call 24; refine (unhide HL w1 (below_one hb1)).mono ?_; rintro _ w2 ⟨rfl, hb2⟩; have hbx2 := cell_later hb2 hbx1))
  refine bodyPost_ret (v := .tuple #[.string ⟨#[]⟩, .int .i64 3]) (by simp [results, Tryz.results5, go_sem]) rfl ⟨rfl, below_one hb1⟩

set_option maxRecDepth 100000 in
theorem build_b2 (w : World) (kinds : List Int) (ak : Option Addr) (ck : Nat) (rs : List (List Val)) (ar : Option Addr) (cr : Nat) (C : Looks w kinds ak ck rs ar cr) (h1 : 1 ≤ kinds.length) (h2 : kinds.length ≤ 32) (h3 : kinds.any noKB = false) (h4 : rs.length ≤ 4096) (h5 : (rs.any fun r => r.any largeTB) = true) :
    Calls Tryz.prog 5 #[.slice ak kinds.length ck, .slice ar rs.length cr] w fun e w' => e = .returned (.tuple #[.string ⟨#[]⟩, .int .i64 3]) ∧ Below w.heap.size w w' := by
  have hbx0 : (w.alloc (.cells #[.slice ak kinds.length ck] 22)).cell? ⟨w.heap.size, 0, none⟩ = some (.slice ak kinds.length ck) := by simp [go_sem]
  have HK := hide C.hk
  have HL := hide C.hl
  have HN := hide C.hn
  rw [h3] at HK
  rw [h5] at HL

  have i1 : ¬ (kinds.length : Int) < 1 := by omega
  have i2 : ¬ (32 : Int) < (kinds.length : Int) := by omega
  have i3 : ¬ (4096 : Int) < (rs.length : Int) := by omega
  go_enter Tryz.func5, Tryz.ntmps5
  go_wp2_with (first
    | (go_at_call 22; refine (unhide HK _ (below_alloc (Below.refl _ _) _)).mono ?_; rintro _ w1 ⟨rfl, hb1⟩; have hbx1 := cell_later hb1 hbx0)
    | (go_at_call 24; refine (unhide HN w2 ((below_one hb1).trans (hb2.mono (below_one hb1).size)) hbx2).mono ?_; rintro _ w3 ⟨rfl, hb3⟩; have hbx3 := cell_later hb3 hbx2)
    | (go_at_call 24; refine (unhide HL w1 (below_one hb1)).mono ?_; rintro _ w2 ⟨rfl, hb2⟩; have hbx2 := cell_later hb2 hbx1))
  refine bodyPost_ret (v := .tuple #[.string ⟨#[]⟩, .int .i64 3]) (by simp [results, Tryz.results5, go_sem]) rfl ⟨rfl, (below_one hb1).trans (hb2.mono (below_one hb1).size)⟩

set_option maxRecDepth 100000 in
theorem build_c (w : World) (kinds : List Int) (ak : Option Addr) (ck : Nat) (rs : List (List Val)) (ar : Option Addr) (cr : Nat) (C : Looks w kinds ak ck rs ar cr) (h1 : 1 ≤ kinds.length) (h2 : kinds.length ≤ 32) (h3 : kinds.any noKB = false) (h4 : rs.length ≤ 4096) (h5 : (rs.any fun r => r.any largeTB) = false) (h6 : rs.any (oddB kinds.length) = true) :
    Calls Tryz.prog 5 #[.slice ak kinds.length ck, .slice ar rs.length cr] w fun e w' => e = .returned (.tuple #[.string ⟨#[]⟩, .int .i64 4]) ∧ Below w.heap.size w w' := by
  have hbx0 : (w.alloc (.cells #[.slice ak kinds.length ck] 22)).cell? ⟨w.heap.size, 0, none⟩ = some (.slice ak kinds.length ck) := by simp [go_sem]
  have HK := hide C.hk
  have HL := hide C.hl
  have HN := hide C.hn
  rw [h3] at HK
  rw [h5] at HL
  rw [h6] at HN

  have i1 : ¬ (kinds.length : Int) < 1 := by omega
  have i2 : ¬ (32 : Int) < (kinds.length : Int) := by omega
  have i3 : ¬ (4096 : Int) < (rs.length : Int) := by omega
  go_enter Tryz.func5, Tryz.ntmps5
  go_wp2_with (first
    | (go_at_call 22; refine (unhide HK _ (below_alloc (Below.refl _ _) _)).mono ?_; rintro _ w1 ⟨rfl, hb1⟩; have hbx1 := cell_later hb1 hbx0)
    | (go_at_call 24; refine (unhide HN w2 ((below_one hb1).trans (hb2.mono (below_one hb1).size)) hbx2).mono ?_; rintro _ w3 ⟨rfl, hb3⟩; have hbx3 := cell_later hb3 hbx2)
    | (go_at_call 24; refine (unhide HL w1 (below_one hb1)).mono ?_; rintro _ w2 ⟨rfl, hb2⟩; have hbx2 := cell_later hb2 hbx1))
  refine bodyPost_ret (v := .tuple #[.string ⟨#[]⟩, .int .i64 4]) (by simp [results, Tryz.results5, go_sem]) rfl ⟨rfl, ((below_one hb1).trans (hb2.mono (below_one hb1).size)).trans (hb3.mono (Nat.le_trans (below_one hb1).size hb2.size))⟩

end Go.Proofs.YthbfomcmjjnikaaGreat

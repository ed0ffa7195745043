import Derived.Test.YtfnacpkodfhfoadCellC
set_option linter.unusedSimpArgs false
set_option linter.unusedVariables false
namespace Go.Proofs.Ytfnacpkodfhfoad
open Go.RowKit Go.Sort
attribute [local go_sem ↓] Go.wp_at_zero Go.wp_at_succ

theorem below_step {W0 w' w1 : World} (h : Below W0.heap.size W0 w') (h1 : Below w'.heap.size w' w1) : Below W0.heap.size W0 w1 := h.trans (h1.mono h.size)
theorem below_alloc {W0 w' : World} (h : Below W0.heap.size W0 w') (o : Obj) : Below W0.heap.size W0 (w'.alloc o) := h.alloc h.size o
def BoxAt (w : World) (b : Nat) (x : Val) : Prop := w.cell? ⟨b, 0, none⟩ = some (.int .i64 x.k) ∧ w.cell? ⟨b, 1, none⟩ = some (.int .i64 x.n) ∧ w.cell? ⟨b, 2, none⟩ = some (.string x.s)
theorem BoxAt.later {w w' : World} {b : Nat} {x : Val} (h : BoxAt w b x) (hb : Below w.heap.size w w') : BoxAt w' b x :=
  ⟨cell_later hb h.1, cell_later hb h.2.1, cell_later hb h.2.2⟩
/-- A box that may be written. -/
def FreeAt (w : World) (b : Nat) : Prop := w.frozen? ⟨b, 0, none⟩ = false ∧ w.frozen? ⟨b, 1, none⟩ = false ∧ w.frozen? ⟨b, 2, none⟩ = false
theorem FreeAt.later {w w' : World} {b : Nat} (h : FreeAt w b) (hl : b < w.heap.size) (hb : Below w.heap.size w w') : FreeAt w' b := by
  obtain ⟨hc, hf⟩ := bcell hb
  unfold FreeAt
  rw [hf _ _ hl, hf _ _ hl, hf _ _ hl]
  exact h

def boxes (w : World) (a b : Val) : World := (w.alloc (.cells #[.int .i64 a.k, .int .i64 a.n, .string a.s] 23)).alloc (.cells #[.int .i64 b.k, .int .i64 b.n, .string b.s] 23)
theorem boxes_size (w : World) (a b : Val) : (boxes w a b).heap.size = w.heap.size + 1 + 1 := by simp [boxes]
theorem boxes_facts {w w' : World} {a b : Val} (h : Below (boxes w a b).heap.size (boxes w a b) w') :
    BoxAt w' w.heap.size a ∧ BoxAt w' (w.heap.size + 1) b ∧ FreeAt w' w.heap.size ∧ FreeAt w' (w.heap.size + 1) ∧ w.heap.size + 1 < w'.heap.size := by
  have hs := h.size
  rw [boxes_size] at hs
  obtain ⟨hc, hf⟩ := bcell h
  refine ⟨⟨?_, ?_, ?_⟩, ⟨?_, ?_, ?_⟩, ⟨?_, ?_, ?_⟩, ⟨?_, ?_, ?_⟩, by omega⟩
  all_goals first | (rw [hc _ _ (by rw [boxes_size]; omega)]; simp [boxes, go_sem]; done) | (rw [hf _ _ (by rw [boxes_size]; omega)]; simp [boxes, go_sem]; done)
theorem boxes_below {w w' : World} {a b : Val} (h : Below (boxes w a b).heap.size (boxes w a b) w') : Below w.heap.size w w' :=
  (((Below.refl _ _).alloc (Nat.le_refl _) _).alloc (by simp) _).trans (h.mono (by rw [boxes_size]; omega))
theorem boxes_drew (w : World) (a b : Val) : Below (boxes w a b).heap.size (boxes w a b) (boxes w a b).drew := (Below.refl _ _).drew

theorem put_two {w w2 : World} {a b : Val} (ca cb : Val) (h : Below (boxes w a b).heap.size (boxes w a b) w2) :
    BoxAt ((((((w2.setCell ⟨w.heap.size, 0, none⟩ (.int .i64 ca.k)).setCell ⟨w.heap.size, 1, none⟩ (.int .i64 ca.n)).setCell ⟨w.heap.size, 2, none⟩ (.string ca.s)).setCell ⟨w.heap.size + 1, 0, none⟩ (.int .i64 cb.k)).setCell ⟨w.heap.size + 1, 1, none⟩ (.int .i64 cb.n)).setCell ⟨w.heap.size + 1, 2, none⟩ (.string cb.s)) w.heap.size ca ∧
    BoxAt ((((((w2.setCell ⟨w.heap.size, 0, none⟩ (.int .i64 ca.k)).setCell ⟨w.heap.size, 1, none⟩ (.int .i64 ca.n)).setCell ⟨w.heap.size, 2, none⟩ (.string ca.s)).setCell ⟨w.heap.size + 1, 0, none⟩ (.int .i64 cb.k)).setCell ⟨w.heap.size + 1, 1, none⟩ (.int .i64 cb.n)).setCell ⟨w.heap.size + 1, 2, none⟩ (.string cb.s)) (w.heap.size + 1) cb ∧
    Below w.heap.size w ((((((w2.setCell ⟨w.heap.size, 0, none⟩ (.int .i64 ca.k)).setCell ⟨w.heap.size, 1, none⟩ (.int .i64 ca.n)).setCell ⟨w.heap.size, 2, none⟩ (.string ca.s)).setCell ⟨w.heap.size + 1, 0, none⟩ (.int .i64 cb.k)).setCell ⟨w.heap.size + 1, 1, none⟩ (.int .i64 cb.n)).setCell ⟨w.heap.size + 1, 2, none⟩ (.string cb.s)) := by
  obtain ⟨⟨a0, a1, a2⟩, ⟨b0, b1, b2⟩, ⟨f0, f1, f2⟩, ⟨g0, g1, g2⟩, hz⟩ := boxes_facts h
  refine ⟨⟨by simp [go_sem, *], by simp [go_sem, *], by simp [go_sem, *]⟩, ⟨by simp [go_sem, *], by simp [go_sem, *], by simp [go_sem, *]⟩, ?_⟩
  exact ((((((boxes_below h).setCell (by simp) _).setCell (by simp) _).setCell (by simp) _).setCell (by simp) _).setCell (by simp) _).setCell (by simp) _

def ordV (x y : Val) : Int := orI (cmpI (cleanV x).k (cleanV y).k) (cmpI (cleanV x).n (cleanV y).n) (cmpB (cleanV x).s (cleanV y).s)

set_option maxHeartbeats 2000000 in
set_option maxRecDepth 100000 in
theorem order_any (a b : Val) (w : World) :
    Calls Try.prog 66 #[a.v, b.v] w fun e w' => e = .returned (.int .i64 (ordV a b)) ∧ Below w.heap.size w w' := by
  rw [a.open_, b.open_]
  have HA := hide (clean_any a)
  have HB := hide (clean_any b)
  unfold ordV
  generalize cleanV a = ca at *
  generalize cleanV b = cb at *
  go_enter Try.func66, Try.ntmps66
  go_upto_region 1 with fail
  go_cut [] (fun wx => BoxAt wx w.heap.size ca ∧ BoxAt wx (w.heap.size + 1) cb ∧ Below w.heap.size w wx)
  case first =>
    go_region_with (first
      | (go_at_call_of 50 (Value.agg #[Value.int IntKind.i64 a.k, Value.int IntKind.i64 a.n, Value.string a.s]); refine (unhide HA _).mono ?_; rintro e w1 ⟨rfl, hb1⟩; rw [Val.open_]; have B1 := below_step (boxes_drew w a b) hb1; obtain ⟨⟨a0, a1, a2⟩, ⟨b0, b1, b2⟩, ⟨f0, f1, f2⟩, ⟨g0, g1, g2⟩, hz⟩ := boxes_facts B1)
      | (go_at_call_of 50 (Value.agg #[Value.int IntKind.i64 b.k, Value.int IntKind.i64 b.n, Value.string b.s]); refine (unhide HB _).mono ?_; rintro e w2 ⟨rfl, hb2⟩; rw [Val.open_]; have B2 := below_step B1 hb2; obtain ⟨⟨a0, a1, a2⟩, ⟨b0, b1, b2⟩, ⟨f0, f1, f2⟩, ⟨g0, g1, g2⟩, hz⟩ := boxes_facts B2))
    all_goals
      go_wp2_with fail
      go_meet
      exact put_two ca cb B2
  case rest =>
    obtain ⟨⟨a0, a1, a2⟩, ⟨b0, b1, b2⟩, hbel⟩ := hcut
    clear HA HB
    rename World => wa
    go_upto_region 2 with fail
    go_region_held3 (fun w' => w'.cell? ⟨w.heap.size, 0, none⟩ = some (.int .i64 ca.k) ∧ w'.cell? ⟨w.heap.size, 1, none⟩ = some (.int .i64 ca.n) ∧ w'.cell? ⟨w.heap.size, 2, none⟩ = some (.string ca.s) ∧ w'.cell? ⟨w.heap.size + 1, 0, none⟩ = some (.int .i64 cb.k) ∧ w'.cell? ⟨w.heap.size + 1, 1, none⟩ = some (.int .i64 cb.n) ∧ w'.cell? ⟨w.heap.size + 1, 2, none⟩ = some (.string cb.s))
      (go_keep)
      (first
        | (go_at_call 96; refine (cmpInt_any _ _ _).mono ?_; rintro e w1 ⟨rfl, rfl⟩)
        | (go_at_call 97; refine (cmpInt64_any _ _ _).mono ?_; rintro e w1 ⟨rfl, rfl⟩)
        | (go_at_call 98; refine (cmpStr_any _ _ _).mono ?_; rintro e w1 ⟨rfl, rfl⟩)
        | (go_at_call 95; refine (or3_any _ (cmpI ca.k cb.k) (cmpI ca.n cb.n) (cmpB ca.s cb.s) _ ?_ ?_ ?_).mono ?_; (simp [go_sem]); (simp [go_sem]); (simp [go_sem]); rintro e w1 ⟨rfl, rfl⟩))
    go_wp2
    go_ret
    exact ⟨rfl, (below_alloc hbel _).drew⟩


theorem less_cmp : ∀ (x y : List UInt8), (if x == y then 0 else if Op.bytesLess x y then -1 else 1 : Int) = Lib.compareBytes x y
  | [], [] => by simp [Lib.compareBytes]
  | [], b :: y => by simp [Lib.compareBytes, Op.bytesLess]
  | a :: x, [] => by simp [Lib.compareBytes, Op.bytesLess]
  | a :: x, b :: y => by
    rw [Lib.compareBytes]
    by_cases h : a < b
    · have hne : a ≠ b := fun e => by subst e; exact absurd h (UInt8.lt_irrefl a)
      simp [h, Op.bytesLess, hne]
    · by_cases h2 : b < a
      · have hne : a ≠ b := fun e => by subst e; exact absurd h2 (UInt8.lt_irrefl a)
        simp [h, h2, Op.bytesLess, hne]
      · have e : a = b := UInt8.le_antisymm (UInt8.not_lt.1 h2) (UInt8.not_lt.1 h)
        subst e
        rw [← less_cmp x y]
        simp [h, Op.bytesLess]
theorem cmpI_cmp (x y : Int) : (if x == y then 0 else if decide (x < y) then -1 else 1 : Int) = cmpI x y := by
  unfold cmpI
  by_cases h : x = y
  · subst h; simp
  · by_cases h2 : x < y
    · simp [h, h2]
    · have : y < x := by omega
      simp [h, h2, this]

def rcmpI (x y : Bool) : Int := if y then 0 else if x then -1 else 1
theorem rcmp_d (x y : Bool) (w : World) : Calls Try.prog 74 #[.bool x, .bool y] w fun e w' => e = .returned (.int .i64 (rcmpI x y)) ∧ w' = w := rcmp_any x y w

theorem clean_s {x : Val} (h : (cleanV x).k = 1) : (cleanV x).s = ⟨#[]⟩ := by
  by_cases h1 : (x.k == 1) = true
  · have e : cleanV x = .num x.n := by simp only [cleanV, h1, if_true]
    rw [e]; rfl
  · by_cases h2 : (x.k == 2) = true
    · have e : cleanV x = .str x.s := by simp only [cleanV, h1, h2, if_true]; rfl
      rw [e] at h; simp [Val.str] at h
    · have e : cleanV x = .null := by simp only [cleanV, h1, h2]; rfl
      rw [e]; rfl
theorem orI_last (c : Int) : orI 0 c 0 = c := by unfold orI; by_cases h : c = 0 <;> simp [h]
theorem orI_third (c : Int) : orI 0 0 c = c := by unfold orI; simp
theorem clean_n {x : Val} (h : ¬ (cleanV x).k = 1) : (cleanV x).n = 0 := by
  unfold cleanV at *
  split
  · rename_i h1; simp [h1, Val.num] at h
  · split <;> rfl
theorem cmpB_nil : cmpB ⟨#[]⟩ ⟨#[]⟩ = 0 := rfl
theorem cmpI_self (x : Int) : cmpI x x = 0 := by simp [cmpI]
theorem ord_kinds (a b : Val) (h : ¬ (cleanV a).k = (cleanV b).k) : ordV a b = rcmpI (decide ((cleanV a).k < (cleanV b).k)) false := by
  unfold ordV rcmpI orI cmpI
  by_cases h2 : (cleanV a).k < (cleanV b).k
  · simp [h2]
  · have : (cleanV b).k < (cleanV a).k := by omega
    simp [h2, this]
theorem ord_nums (a b : Val) (h : (cleanV a).k = (cleanV b).k) (h1 : (cleanV a).k = 1) : ordV a b = rcmpI (decide ((cleanV a).n < (cleanV b).n)) ((cleanV a).n == (cleanV b).n) := by
  unfold ordV
  rw [clean_s h1, clean_s (h ▸ h1), h, cmpI_self, cmpB_nil, orI_last, ← cmpI_cmp, rcmpI]
theorem ord_texts (a b : Val) (h : (cleanV a).k = (cleanV b).k) (h1 : ¬ (cleanV a).k = 1) : ordV a b = rcmpI (Op.bytesLess (cleanV a).s.toList (cleanV b).s.toList) ((cleanV a).s.toList == (cleanV b).s.toList) := by
  unfold ordV
  rw [clean_n h1, clean_n (h ▸ h1), h, cmpI_self, cmpI_self, rcmpI, orI_third]
  unfold cmpB
  rw [← less_cmp (cleanV a).s.data.toList (cleanV b).s.data.toList]
  simp only [Lib.toList_data]

set_option maxHeartbeats 2000000 in
set_option maxRecDepth 100000 in
theorem rorder_any (a b : Val) (w : World) :
    Calls Try.prog 48 #[a.v, b.v] w fun e w' => e = .returned (.int .i64 (ordV a b)) ∧ Below w.heap.size w w' := by
  rw [a.open_, b.open_]
  have HA := hide (rclean_any a)
  have HB := hide (rclean_any b)
  have E1 := hide (ord_kinds a b)
  have E2 := hide (ord_nums a b)
  have E3 := hide (ord_texts a b)
  generalize cleanV a = ca at *
  generalize cleanV b = cb at *
  generalize ordV a b = r at *
  go_enter Try.func48, Try.ntmps48
  go_upto_region 1 with fail
  go_cut [] (fun wx => BoxAt wx w.heap.size ca ∧ BoxAt wx (w.heap.size + 1) cb ∧ Below w.heap.size w wx)
  case first =>
    go_region_with (first
      | (go_at_call_of 45 (Value.agg #[Value.int IntKind.i64 a.k, Value.int IntKind.i64 a.n, Value.string a.s]); refine (unhide HA _).mono ?_; rintro e w1 ⟨rfl, hb1⟩; rw [Val.open_]; have B1 := below_step (boxes_drew w a b) hb1; obtain ⟨⟨a0, a1, a2⟩, ⟨b0, b1, b2⟩, ⟨f0, f1, f2⟩, ⟨g0, g1, g2⟩, hz⟩ := boxes_facts B1)
      | (go_at_call_of 45 (Value.agg #[Value.int IntKind.i64 b.k, Value.int IntKind.i64 b.n, Value.string b.s]); refine (unhide HB _).mono ?_; rintro e w2 ⟨rfl, hb2⟩; rw [Val.open_]; have B2 := below_step B1 hb2; obtain ⟨⟨a0, a1, a2⟩, ⟨b0, b1, b2⟩, ⟨f0, f1, f2⟩, ⟨g0, g1, g2⟩, hz⟩ := boxes_facts B2))
    all_goals
      go_wp2_with fail
      go_meet
      exact put_two ca cb B2
  case rest =>
    obtain ⟨⟨a0, a1, a2⟩, ⟨b0, b1, b2⟩, hbel⟩ := hcut
    clear HA HB
    rename World => wa
    by_cases hk : ca.k = cb.k
    · have hk1 : (ca.k != cb.k) = false := by simpa using hk
      by_cases h1 : ca.k = 1
      · have h2 : (ca.k == 1) = true := by simpa using h1
        have E := hide (unhide E2 hk h1)
        clear E1 E2 E3 hk h1
        go_wp2_with (go_at_call 74; refine (rcmp_d _ _ _).mono ?_; rintro e w1 ⟨rfl, rfl⟩)
        go_ret
        exact ⟨by rw [unhide E]; rfl, hbel⟩
      · have h2 : (ca.k == 1) = false := by simpa using h1
        have E := hide (unhide E3 hk h1)
        clear E1 E2 E3 hk h1
        go_wp2_with (go_at_call 74; refine (rcmp_d _ _ _).mono ?_; rintro e w1 ⟨rfl, rfl⟩)
        go_ret
        exact ⟨by rw [unhide E]; rfl, hbel⟩
    · have hk1 : (ca.k != cb.k) = true := by simpa using hk
      have E := hide (unhide E1 hk)
      clear E1 E2 E3 hk
      go_wp2_with (go_at_call 74; refine (rcmp_d _ _ _).mono ?_; rintro e w1 ⟨rfl, rfl⟩)
      go_ret
      exact ⟨by rw [unhide E]; rfl, hbel⟩

end Go.Proofs.Ytfnacpkodfhfoad

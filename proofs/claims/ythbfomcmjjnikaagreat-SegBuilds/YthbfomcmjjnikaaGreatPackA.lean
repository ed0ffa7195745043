import Derived.Test.YthbfomcmjjnikaaGreatVecP
import Derived.Deep.DeepCutAuto
import Derived.Deep.DrawnRows
import Derived.Lib.Bytealg
import Derived.Lib.AppendStr
set_option linter.unusedSimpArgs false
set_option linter.unusedVariables false
namespace Go.Proofs.YthbfomcmjjnikaaGreat
open Go.RowKit Go.Sort


/-- -1, 0 or 1: the order of two numbers; of two texts. -/
def cmpI (x y : Int) : Int := if x < y then -1 else if y < x then 1 else 0

set_option maxHeartbeats 1000000 in
theorem cmpInt_any (x y : Int) (w : World) :
    Calls Tryz.prog 123 #[.int .i64 x, .int .i64 y] w fun e w' => e = .returned (.int .i64 (cmpI x y)) ∧ w' = w := by
  unfold cmpI
  go_enter Tryz.func123, Tryz.ntmps123
  go_wp2
  all_goals (go_ret; exact ⟨rfl, rfl⟩)
set_option maxHeartbeats 1000000 in
theorem cmpInt64_any (x y : Int) (w : World) :
    Calls Tryz.prog 124 #[.int .i64 x, .int .i64 y] w fun e w' => e = .returned (.int .i64 (cmpI x y)) ∧ w' = w := by
  unfold cmpI
  go_enter Tryz.func124, Tryz.ntmps124
  go_wp2
  all_goals (go_ret; exact ⟨rfl, rfl⟩)

def cmpB (x y : ByteArray) : Int := Lib.compareBytes x.data.toList y.data.toList
theorem run79 (x y : ByteArray) (w : World) : (callFunc 166 #[.string x, .string y]).run Tryz.prog w = .ok (.value (.int .i64 (cmpB x y))) w := by
  rw [run_callFunc_extern Tryz.func166 (by kernel_rfl) (by kernel_rfl) (by kernel_rfl) (e := Extern.BytealgCompare.compare) (by kernel_rfl), Lib.run_compareString]
  rfl
theorem cmpStr_any (x y : ByteArray) (w : World) :
    Calls Tryz.prog 125 #[.string x, .string y] w fun e w' => e = .returned (.int .i64 (cmpB x y)) ∧ w' = w := by
  have h79 := run79 x y
  go_enter Tryz.func125, Tryz.ntmps125
  go_wp2
  go_ret
  exact ⟨rfl, rfl⟩

theorem rcmp_any (x y : Bool) (w : World) :
    Calls Tryz.prog 106 #[.bool x, .bool y] w fun e w' => e = .returned (.int .i64 (if y then 0 else if x then -1 else 1)) ∧ w' = w := by
  cases x <;> cases y
  all_goals
    go_enter Tryz.func106, Tryz.ntmps106
    go_wp2
    go_ret
    exact ⟨rfl, rfl⟩

/-- The first of three that is not 0. -/
def orI (x y z : Int) : Int := if x ≠ 0 then x else if y ≠ 0 then y else z

set_option maxHeartbeats 1000000 in
theorem or3_any (b : Nat) (x y z : Int) (w : World) (h0 : w.cell? ⟨b, 0, none⟩ = some (.int .i64 x)) (h1 : w.cell? ⟨b, 1, none⟩ = some (.int .i64 y)) (h2 : w.cell? ⟨b, 2, none⟩ = some (.int .i64 z)) :
    Calls Tryz.prog 122 #[.slice (some ⟨b, 0, none⟩) 3 3] w fun e w' => e = .returned (.int .i64 (orI x y z)) ∧ w' = w := by
  go_enter Tryz.func122, Tryz.ntmps122
  go_wp2
  go_loop [8] (fun i => ∃ k : Nat, k ≤ 3 ∧ i = .int .i64 k ∧ (1 ≤ k → x = 0) ∧ (2 ≤ k → y = 0) ∧ (3 ≤ k → z = 0)) (fun i => 3 - (intOf i).toNat)
  case atStart => exact ⟨0, Nat.zero_le _, rfl, by omega, by omega, by omega⟩
  case round =>
    obtain ⟨k, hk, rfl, r1, r2, r3⟩ := hrel
    rcases (show k = 0 ∨ k = 1 ∨ k = 2 ∨ k = 3 by omega) with rfl | rfl | rfl | rfl
    · clear r1 r2 r3
      by_cases hx : x = 0
      · have hx' : (x != 0) = false := by simpa using hx
        have HX := hide hx
        clear hx
        go_wp2
        go_round
        case rel => exact ⟨1, by omega, rfl, fun _ => unhide HX, by omega, by omega⟩
        case measure => simp [intOf]
      · have hx' : (x != 0) = true := by simpa using hx
        have HX := hide hx
        clear hx
        go_wp2
        go_ret
        exact ⟨by simp [orI, unhide HX], rfl⟩
    · have HX := hide (r1 (by omega))
      clear r1 r2 r3
      by_cases hx : y = 0
      · have hx' : (y != 0) = false := by simpa using hx
        have HY := hide hx
        clear hx
        go_wp2
        go_round
        case rel => exact ⟨2, by omega, rfl, fun _ => unhide HX, fun _ => unhide HY, by omega⟩
        case measure => simp [intOf]
      · have hx' : (y != 0) = true := by simpa using hx
        have HY := hide hx
        clear hx
        go_wp2
        go_ret
        exact ⟨by simp [orI, unhide HX, unhide HY], rfl⟩
    · have HX := hide (r1 (by omega))
      have HY := hide (r2 (by omega))
      clear r1 r2 r3
      by_cases hx : z = 0
      · have hx' : (z != 0) = false := by simpa using hx
        have HZ := hide hx
        clear hx
        go_wp2
        go_round
        case rel => exact ⟨3, by omega, rfl, fun _ => unhide HX, fun _ => unhide HY, fun _ => unhide HZ⟩
        case measure => simp [intOf]
      · have hx' : (z != 0) = true := by simpa using hx
        have HZ := hide hx
        clear hx
        go_wp2
        go_ret
        exact ⟨by simp [orI, unhide HX, unhide HY], rfl⟩
    · have HX := hide (r1 (by omega))
      have HY := hide (r2 (by omega))
      have HZ := hide (r3 (by omega))
      clear r1 r2 r3
      go_wp2
      go_ret
      exact ⟨by simp [orI, unhide HX, unhide HY, unhide HZ], rfl⟩

def BoxAt (w : World) (b : Nat) (x : Val) : Prop := w.cell? ⟨b, 0, none⟩ = some (.int .i64 x.k) ∧ w.cell? ⟨b, 1, none⟩ = some (.int .i64 x.n) ∧ w.cell? ⟨b, 2, none⟩ = some (.string x.s)
theorem BoxAt.later {w w' : World} {b : Nat} {x : Val} (h : BoxAt w b x) (hb : Below w.heap.size w w') : BoxAt w' b x :=
  ⟨cell_later hb h.1, cell_later hb h.2.1, cell_later hb h.2.2⟩
/-- A box that may be written. -/
def FreeAt (w : World) (b : Nat) : Prop := w.frozen? ⟨b, 0, none⟩ = false ∧ w.frozen? ⟨b, 1, none⟩ = false ∧ w.frozen? ⟨b, 2, none⟩ = false
theorem FreeAt.later {w w' : World} {b : Nat} (h : FreeAt w b) (hl : b < w.heap.size) (hb : Below w.heap.size w w') : FreeAt w' b := by
  obtain ⟨hc, hf⟩ := bcell hb
  unfold FreeAt
  rw [hf _ _ hl, hf _ _ hl, hf _ _ hl]
  exact h

def boxes (w : World) (a b : Val) : World := (w.alloc (.cells #[.int .i64 a.k, .int .i64 a.n, .string a.s] 59)).alloc (.cells #[.int .i64 b.k, .int .i64 b.n, .string b.s] 59)
theorem boxes_size (w : World) (a b : Val) : (boxes w a b).heap.size = w.heap.size + 1 + 1 := by simp [boxes]
theorem boxes_facts {w w' : World} {a b : Val} (h : Below (boxes w a b).heap.size (boxes w a b) w') :
    BoxAt w' w.heap.size a ∧ BoxAt w' (w.heap.size + 1) b ∧ FreeAt w' w.heap.size ∧ FreeAt w' (w.heap.size + 1) ∧ w.heap.size + 1 < w'.heap.size := by
  have hs := h.size
  rw [boxes_size] at hs
  obtain ⟨hc, hf⟩ := bcell h
  refine ⟨⟨?_, ?_, ?_⟩, ⟨?_, ?_, ?_⟩, ⟨?_, ?_, ?_⟩, ⟨?_, ?_, ?_⟩, by omega⟩
  all_goals first | (rw [hc _ _ (by rw [boxes_size]; omega)]; simp [boxes, go_sem]; done) | (rw [hf _ _ (by rw [boxes_size]; omega)]; simp [boxes, go_sem]; done)
theorem boxes_below {w w' : World} {a b : Val} (h : Below (boxes w a b).heap.size (boxes w a b) w') : Below w.heap.size w w' :=
  (((Below.refl _ _).alloc (Nat.le_refl _) _).alloc (by simp) _).trans (h.mono (by rw [boxes_size]; omega))
theorem boxes_drew (w : World) (a b : Val) : Below (boxes w a b).heap.size (boxes w a b) (boxes w a b).drew := (Below.refl _ _).drew

theorem put_two {w w2 : World} {a b : Val} (ca cb : Val) (h : Below (boxes w a b).heap.size (boxes w a b) w2) :
    BoxAt ((((((w2.setCell ⟨w.heap.size, 0, none⟩ (.int .i64 ca.k)).setCell ⟨w.heap.size, 1, none⟩ (.int .i64 ca.n)).setCell ⟨w.heap.size, 2, none⟩ (.string ca.s)).setCell ⟨w.heap.size + 1, 0, none⟩ (.int .i64 cb.k)).setCell ⟨w.heap.size + 1, 1, none⟩ (.int .i64 cb.n)).setCell ⟨w.heap.size + 1, 2, none⟩ (.string cb.s)) w.heap.size ca ∧
    BoxAt ((((((w2.setCell ⟨w.heap.size, 0, none⟩ (.int .i64 ca.k)).setCell ⟨w.heap.size, 1, none⟩ (.int .i64 ca.n)).setCell ⟨w.heap.size, 2, none⟩ (.string ca.s)).setCell ⟨w.heap.size + 1, 0, none⟩ (.int .i64 cb.k)).setCell ⟨w.heap.size + 1, 1, none⟩ (.int .i64 cb.n)).setCell ⟨w.heap.size + 1, 2, none⟩ (.string cb.s)) (w.heap.size + 1) cb ∧
    Below w.heap.size w ((((((w2.setCell ⟨w.heap.size, 0, none⟩ (.int .i64 ca.k)).setCell ⟨w.heap.size, 1, none⟩ (.int .i64 ca.n)).setCell ⟨w.heap.size, 2, none⟩ (.string ca.s)).setCell ⟨w.heap.size + 1, 0, none⟩ (.int .i64 cb.k)).setCell ⟨w.heap.size + 1, 1, none⟩ (.int .i64 cb.n)).setCell ⟨w.heap.size + 1, 2, none⟩ (.string cb.s)) := by
  obtain ⟨⟨a0, a1, a2⟩, ⟨b0, b1, b2⟩, ⟨f0, f1, f2⟩, ⟨g0, g1, g2⟩, hz⟩ := boxes_facts h
  refine ⟨⟨by simp [go_sem, *], by simp [go_sem, *], by simp [go_sem, *]⟩, ⟨by simp [go_sem, *], by simp [go_sem, *], by simp [go_sem, *]⟩, ?_⟩
  exact ((((((boxes_below h).setCell (by simp) _).setCell (by simp) _).setCell (by simp) _).setCell (by simp) _).setCell (by simp) _).setCell (by simp) _

def ordV (x y : Val) : Int := orI (cmpI (cleanV x).k (cleanV y).k) (cmpI (cleanV x).n (cleanV y).n) (cmpB (cleanV x).s (cleanV y).s)

set_option maxHeartbeats 2000000 in
set_option maxRecDepth 100000 in
theorem order_any (a b : Val) (w : World) :
    Calls Tryz.prog 103 #[a.v, b.v] w fun e w' => e = .returned (.int .i64 (ordV a b)) ∧ Below w.heap.size w w' := by
  rw [a.open_, b.open_]
  have HA := hide (clean_any a)
  have HB := hide (clean_any b)
  unfold ordV
  generalize cleanV a = ca at *
  generalize cleanV b = cb at *
  go_enter Tryz.func103, Tryz.ntmps103
  go_upto_region 1 with fail
  go_cut [] (fun wx => BoxAt wx w.heap.size ca ∧ BoxAt wx (w.heap.size + 1) cb ∧ Below w.heap.size w wx)
  case first =>
    go_region_with (first
      | (go_at_call_of 52 (Value.agg #[Value.int IntKind.i64 a.k, Value.int IntKind.i64 a.n, Value.string a.s]); refine (unhide HA _).mono ?_; rintro e w1 ⟨rfl, hb1⟩; rw [Val.open_]; have B1 := below_step (boxes_drew w a b) hb1; obtain ⟨⟨a0, a1, a2⟩, ⟨b0, b1, b2⟩, ⟨f0, f1, f2⟩, ⟨g0, g1, g2⟩, hz⟩ := boxes_facts B1)
      | (go_at_call_of 52 (Value.agg #[Value.int IntKind.i64 b.k, Value.int IntKind.i64 b.n, Value.string b.s]); refine (unhide HB _).mono ?_; rintro e w2 ⟨rfl, hb2⟩; rw [Val.open_]; have B2 := below_step B1 hb2; obtain ⟨⟨a0, a1, a2⟩, ⟨b0, b1, b2⟩, ⟨f0, f1, f2⟩, ⟨g0, g1, g2⟩, hz⟩ := boxes_facts B2))
    all_goals
      go_wp2_with fail
      go_meet
      exact put_two ca cb B2
  case rest =>
    obtain ⟨⟨a0, a1, a2⟩, ⟨b0, b1, b2⟩, hbel⟩ := hcut
    clear HA HB
    rename World => wa
    go_upto_region 2 with fail
    go_region_held3 (fun w' => w'.cell? ⟨w.heap.size, 0, none⟩ = some (.int .i64 ca.k) ∧ w'.cell? ⟨w.heap.size, 1, none⟩ = some (.int .i64 ca.n) ∧ w'.cell? ⟨w.heap.size, 2, none⟩ = some (.string ca.s) ∧ w'.cell? ⟨w.heap.size + 1, 0, none⟩ = some (.int .i64 cb.k) ∧ w'.cell? ⟨w.heap.size + 1, 1, none⟩ = some (.int .i64 cb.n) ∧ w'.cell? ⟨w.heap.size + 1, 2, none⟩ = some (.string cb.s))
      (go_keep)
      (first
        | (go_at_call 123; refine (cmpInt_any _ _ _).mono ?_; rintro e w1 ⟨rfl, rfl⟩)
        | (go_at_call 124; refine (cmpInt64_any _ _ _).mono ?_; rintro e w1 ⟨rfl, rfl⟩)
        | (go_at_call 125; refine (cmpStr_any _ _ _).mono ?_; rintro e w1 ⟨rfl, rfl⟩)
        | (go_at_call 122; refine (or3_any _ (cmpI ca.k cb.k) (cmpI ca.n cb.n) (cmpB ca.s cb.s) _ ?_ ?_ ?_).mono ?_; (simp [go_sem]); (simp [go_sem]); (simp [go_sem]); rintro e w1 ⟨rfl, rfl⟩))
    go_wp2
    go_ret
    exact ⟨rfl, (below_alloc hbel _).drew⟩


theorem less_cmp : ∀ (x y : List UInt8), (if x == y then 0 else if Op.bytesLess x y then -1 else 1 : Int) = Lib.compareBytes x y
  | [], [] => by simp [Lib.compareBytes]
  | [], b :: y => by simp [Lib.compareBytes, Op.bytesLess]
  | a :: x, [] => by simp [Lib.compareBytes, Op.bytesLess]
  | a :: x, b :: y => by
    rw [Lib.compareBytes]
    by_cases h : a < b
    · have hne : a ≠ b := fun e => by subst e; exact absurd h (UInt8.lt_irrefl a)
      simp [h, Op.bytesLess, hne]
    · by_cases h2 : b < a
      · have hne : a ≠ b := fun e => by subst e; exact absurd h2 (UInt8.lt_irrefl a)
        simp [h, h2, Op.bytesLess, hne]
      · have e : a = b := UInt8.le_antisymm (UInt8.not_lt.1 h2) (UInt8.not_lt.1 h)
        subst e
        rw [← less_cmp x y]
        simp [h, Op.bytesLess]
theorem cmpI_cmp (x y : Int) : (if x == y then 0 else if decide (x < y) then -1 else 1 : Int) = cmpI x y := by
  unfold cmpI
  by_cases h : x = y
  · subst h; simp
  · by_cases h2 : x < y
    · simp [h, h2]
    · have : y < x := by omega
      simp [h, h2, this]

def rcmpI (x y : Bool) : Int := if y then 0 else if x then -1 else 1
theorem rcmp_d (x y : Bool) (w : World) : Calls Tryz.prog 106 #[.bool x, .bool y] w fun e w' => e = .returned (.int .i64 (rcmpI x y)) ∧ w' = w := rcmp_any x y w

theorem clean_s {x : Val} (h : (cleanV x).k = 1) : (cleanV x).s = ⟨#[]⟩ := by
  by_cases h1 : (x.k == 1) = true
  · have e : cleanV x = .num x.n := by simp only [cleanV, h1, if_true]
    rw [e]; rfl
  · by_cases h2 : (x.k == 2) = true
    · have e : cleanV x = .str x.s := by simp only [cleanV, h1, h2, if_true]; rfl
      rw [e] at h; simp [Val.str] at h
    · have e : cleanV x = .null := by simp only [cleanV, h1, h2]; rfl
      rw [e]; rfl
theorem orI_last (c : Int) : orI 0 c 0 = c := by unfold orI; by_cases h : c = 0 <;> simp [h]
theorem orI_third (c : Int) : orI 0 0 c = c := by unfold orI; simp
theorem clean_n {x : Val} (h : ¬ (cleanV x).k = 1) : (cleanV x).n = 0 := by
  unfold cleanV at *
  split
  · rename_i h1; simp [h1, Val.num] at h
  · split <;> rfl
theorem cmpB_nil : cmpB ⟨#[]⟩ ⟨#[]⟩ = 0 := rfl
theorem cmpI_self (x : Int) : cmpI x x = 0 := by simp [cmpI]
theorem ord_kinds (a b : Val) (h : ¬ (cleanV a).k = (cleanV b).k) : ordV a b = rcmpI (decide ((cleanV a).k < (cleanV b).k)) false := by
  unfold ordV rcmpI orI cmpI
  by_cases h2 : (cleanV a).k < (cleanV b).k
  · simp [h2]
  · have : (cleanV b).k < (cleanV a).k := by omega
    simp [h2, this]
theorem ord_nums (a b : Val) (h : (cleanV a).k = (cleanV b).k) (h1 : (cleanV a).k = 1) : ordV a b = rcmpI (decide ((cleanV a).n < (cleanV b).n)) ((cleanV a).n == (cleanV b).n) := by
  unfold ordV
  rw [clean_s h1, clean_s (h ▸ h1), h, cmpI_self, cmpB_nil, orI_last, ← cmpI_cmp, rcmpI]
theorem ord_texts (a b : Val) (h : (cleanV a).k = (cleanV b).k) (h1 : ¬ (cleanV a).k = 1) : ordV a b = rcmpI (Op.bytesLess (cleanV a).s.toList (cleanV b).s.toList) ((cleanV a).s.toList == (cleanV b).s.toList) := by
  unfold ordV
  rw [clean_n h1, clean_n (h ▸ h1), h, cmpI_self, cmpI_self, rcmpI, orI_third]
  unfold cmpB
  rw [← less_cmp (cleanV a).s.data.toList (cleanV b).s.data.toList]
  simp only [Lib.toList_data]

set_option maxHeartbeats 2000000 in
set_option maxRecDepth 100000 in
theorem rorder_any (a b : Val) (w : World) :
    Calls Tryz.prog 84 #[a.v, b.v] w fun e w' => e = .returned (.int .i64 (ordV a b)) ∧ Below w.heap.size w w' := by
  rw [a.open_, b.open_]
  have HA := hide (rclean_any a)
  have HB := hide (rclean_any b)
  have E1 := hide (ord_kinds a b)
  have E2 := hide (ord_nums a b)
  have E3 := hide (ord_texts a b)
  generalize cleanV a = ca at *
  generalize cleanV b = cb at *
  generalize ordV a b = r at *
  go_enter Tryz.func84, Tryz.ntmps84
  go_upto_region 1 with fail
  go_cut [] (fun wx => BoxAt wx w.heap.size ca ∧ BoxAt wx (w.heap.size + 1) cb ∧ Below w.heap.size w wx)
  case first =>
    go_region_with (first
      | (go_at_call_of 31 (Value.agg #[Value.int IntKind.i64 a.k, Value.int IntKind.i64 a.n, Value.string a.s]); refine (unhide HA _).mono ?_; rintro e w1 ⟨rfl, hb1⟩; rw [Val.open_]; have B1 := below_step (boxes_drew w a b) hb1; obtain ⟨⟨a0, a1, a2⟩, ⟨b0, b1, b2⟩, ⟨f0, f1, f2⟩, ⟨g0, g1, g2⟩, hz⟩ := boxes_facts B1)
      | (go_at_call_of 31 (Value.agg #[Value.int IntKind.i64 b.k, Value.int IntKind.i64 b.n, Value.string b.s]); refine (unhide HB _).mono ?_; rintro e w2 ⟨rfl, hb2⟩; rw [Val.open_]; have B2 := below_step B1 hb2; obtain ⟨⟨a0, a1, a2⟩, ⟨b0, b1, b2⟩, ⟨f0, f1, f2⟩, ⟨g0, g1, g2⟩, hz⟩ := boxes_facts B2))
    all_goals
      go_wp2_with fail
      go_meet
      exact put_two ca cb B2
  case rest =>
    obtain ⟨⟨a0, a1, a2⟩, ⟨b0, b1, b2⟩, hbel⟩ := hcut
    clear HA HB
    rename World => wa
    by_cases hk : ca.k = cb.k
    · have hk1 : (ca.k != cb.k) = false := by simpa using hk
      by_cases h1 : ca.k = 1
      · have h2 : (ca.k == 1) = true := by simpa using h1
        have E := hide (unhide E2 hk h1)
        clear E1 E2 E3 hk h1
        go_wp2_with (go_at_call 106; refine (rcmp_d _ _ _).mono ?_; rintro e w1 ⟨rfl, rfl⟩)
        go_ret
        exact ⟨by rw [unhide E]; rfl, hbel⟩
      · have h2 : (ca.k == 1) = false := by simpa using h1
        have E := hide (unhide E3 hk h1)
        clear E1 E2 E3 hk h1
        go_wp2_with (go_at_call 106; refine (rcmp_d _ _ _).mono ?_; rintro e w1 ⟨rfl, rfl⟩)
        go_ret
        exact ⟨by rw [unhide E]; rfl, hbel⟩
    · have hk1 : (ca.k != cb.k) = true := by simpa using hk
      have E := hide (unhide E1 hk)
      clear E1 E2 E3 hk
      go_wp2_with (go_at_call 106; refine (rcmp_d _ _ _).mono ?_; rintro e w1 ⟨rfl, rfl⟩)
      go_ret
      exact ⟨by rw [unhide E]; rfl, hbel⟩

end Go.Proofs.YthbfomcmjjnikaaGreat
set_option linter.unusedSimpArgs false
set_option linter.unusedVariables false
namespace Go.Proofs.YthbfomcmjjnikaaGreat
open Go.RowKit Go.Sort

theorem Tryz.info5 : (Tryz.prog.info? 5).map (fun i => (i.zero, i.size, i.bytes)) = some (some (.int .u8 0), 1, 1) := by kernel_rfl

/-- The slice of bytes v, a row of the call's own, holds the numbers zs. -/
def OwnB (w : World) (base : Nat) (v : Value) (zs : List Int) : Prop := w.ownsRow base 5 1 v zs.length (zs.map (Value.int .u8))
/-- w' is w with new blocks, and with writes to v's own row alone; v' lies there, or in a new block. -/
def Grew (w w' : World) (v v' : Value) : Prop := w.grownBy w' v.ownBlock ∧ (v'.ownBlock = v.ownBlock ∨ ∃ g, v'.ownBlock = some g ∧ w.heap.size ≤ g)

theorem Grew.refl (w : World) (v : Value) : Grew w w v v := ⟨⟨rfl, rfl, rfl, Nat.le_refl _, fun _ _ _ => rfl⟩, .inl rfl⟩
theorem Grew.trans {a b c : World} {u v x : Value} (h : Grew a b u v) (k : Grew b c v x) : Grew a c u x := by
  obtain ⟨h1, h2⟩ := h
  obtain ⟨k1, k2⟩ := k
  refine ⟨⟨k1.os.trans h1.os, k1.tape.trans h1.tape, k1.output.trans h1.output, Nat.le_trans h1.size k1.size, fun i hi hne => ?_⟩, ?_⟩
  · rw [k1.block i (Nat.lt_of_lt_of_le hi h1.size) ?_, h1.block i hi hne]
    rcases h2 with h2 | ⟨g, h2, hg⟩
    · rw [h2]; exact hne
    · rw [h2]; intro e; cases e; omega
  · rcases k2 with k2 | ⟨g, k2, hg⟩
    · rcases h2 with h2 | ⟨g, h2, hg⟩
      · exact .inl (k2.trans h2)
      · exact .inr ⟨g, k2.trans h2, hg⟩
    · exact .inr ⟨g, k2, Nat.le_trans h1.size hg⟩
/-- An alloc, then an append. -/
theorem Grew.app {a b c : World} {u v x : Value} {o : Obj} (h : Grew a b u v) (hg : (b.alloc o).grownBy c v.ownBlock) (hat : x.ownBlock = v.ownBlock ∨ x.ownBlock = some (b.alloc o).heap.size) : Grew a c u x := by
  refine h.trans ⟨⟨hg.os, hg.tape, hg.output, ?_, fun i hi hne => ?_⟩, ?_⟩
  · have := hg.size; simp at this; omega
  · rw [hg.block i (by simp; omega) hne, Below.heap_alloc b o i hi]
  · rcases hat with h | h
    · exact .inl h
    · exact .inr ⟨_, h, by simp⟩
/-- Two allocs, then an append. -/
theorem Grew.app2 {b c : World} {v x : Value} {o o2 : Obj} (hg : ((b.alloc o).alloc o2).grownBy c v.ownBlock) (hat : x.ownBlock = v.ownBlock ∨ x.ownBlock = some ((b.alloc o).alloc o2).heap.size) : Grew b c v x := by
  refine ⟨⟨hg.os, hg.tape, hg.output, ?_, fun i hi hne => ?_⟩, ?_⟩
  · have := hg.size; simp at this; omega
  · rw [hg.block i (by simp; omega) hne, Below.heap_alloc _ o2 i (by simp; omega), Below.heap_alloc b o i hi]
  · rcases hat with h | h
    · exact .inl h
    · exact .inr ⟨_, h, by simp; omega⟩
theorem Grew.below {a b : World} {u v : Value} (h : Grew a b u v) {B : Nat} (hB : B ≤ a.heap.size) (hu : ∀ g, u.ownBlock = some g → B ≤ g) : Below B a b :=
  ⟨h.1.os, h.1.tape, h.1.output, h.1.size, fun k hk => h.1.block k (by omega) (fun e => by have := hu k e.symm; omega)⟩

theorem ownB_app {w : World} {base : Nat} {v : Value} {ys news : List Int} {m : Nat} (hm : news.length = m) (h : w.ownsRow base 5 1 v (ys.length + m) (ys.map (Value.int .u8) ++ news.map (Value.int .u8))) : OwnB w base v (ys ++ news) := by
  unfold OwnB
  rw [List.length_append, List.map_append, hm]
  exact h

theorem ownB_lt {w : World} {base : Nat} {v : Value} {zs : List Int} (h : OwnB w base v zs) {g : Nat} (hg : v.ownBlock = some g) : base ≤ g ∧ g < w.heap.size := World.ownsRow.lt h g hg
theorem grew_kept {w1 w2 : World} {u v : Value} (h : Grew w1 w2 u v) {b : Nat} (hb : b < w1.heap.size) (hne : u.ownBlock ≠ some b) (j : Nat) : w2.cell? ⟨b, j, none⟩ = w1.cell? ⟨b, j, none⟩ :=
  World.cell?_of_block (a := ⟨b, j, none⟩) (h.1.block b hb (fun e => hne e.symm))

/-- The bytes as a text. -/
def toB (zs : List Int) : ByteArray := zs.foldl (fun r n => r.push (UInt8.ofNat n.toNat)) ByteArray.empty

theorem convert_own {w : World} {base : Nat} {v : Value} {zs : List Int} (h : OwnB w base v zs) : (convert 71 9 v).run Tryz.prog w = .ok (.string (toB zs)) w := by
  rcases h.2 with ⟨rfl, h0⟩ | ⟨g, cap, cur, rfl, hb, hg, _⟩
  · have : zs = [] := List.eq_nil_of_length_eq_zero h0
    subst this
    rw [run_convert_bytes_string w 71 9 5 none 0 0 Tryz.underlying71 Tryz.underlying5 Tryz.underlying9]
    rfl
  · rw [run_convert_bytes_string w 71 9 5 _ _ _ Tryz.underlying71 Tryz.underlying5 Tryz.underlying9]
    refine run_bytesToString w _ _ _ zs ?_
    have := run_loadCells_list (P := Tryz.prog) (w := w) ⟨g, 0, none⟩ (zs.map (Value.int .u8)) (World.ownsRow.cells h rfl)
    simpa using this

def ofI (n : Int) : UInt8 := UInt8.ofNat n.toNat
theorem toB_fold (zs : List Int) : ∀ acc : ByteArray, zs.foldl (fun r n => r.push (UInt8.ofNat n.toNat)) acc = ⟨acc.data ++ (zs.map ofI).toArray⟩ := by
  induction zs with
  | nil => intro acc; simp
  | cons z zs ih =>
    intro acc
    rw [List.foldl_cons, ih]
    congr 1
    simp [ByteArray.push, ofI]
theorem toB_eq (zs : List Int) : toB zs = ⟨(zs.map ofI).toArray⟩ := by
  unfold toB
  rw [toB_fold]
  show ByteArray.mk (#[] ++ _) = _
  rw [Array.empty_append]
theorem toB_append (a b : List Int) : toB (a ++ b) = toB a ++ toB b := by
  rw [toB_eq, toB_eq, toB_eq]
  simp only [List.map_append]
  apply ByteArray.ext
  simp
theorem toB_size (a : List Int) : (toB a).size = a.length := by
  rw [toB_eq]; simp [ByteArray.size]
theorem toB_cons (z : Int) (a : List Int) : toB (z :: a) = toB [z] ++ toB a := toB_append [z] a

/-- The k-th of n bytes of a number, the high one first. -/
def beN (U : Int) (n k : Nat) : Int := U / 2 ^ (8 * (n - 1 - k)) % 256
def beL (U : Int) (n k : Nat) : List Int := (List.range k).map (beN U n)
theorem beL_succ (U : Int) (n k : Nat) : beL U n (k + 1) = beL U n k ++ [beN U n k] := by simp [beL, List.range_succ]
theorem beL_len (U : Int) (n k : Nat) : (beL U n k).length = k := by simp [beL]

set_option maxHeartbeats 1000000 in
theorem appnum_any (base : Nat) (zs : List Int) (U : Int) (n : Nat) (v : Value) (w : World) (hn : n ≤ 8) (hown : OwnB w base v zs) (hlen : zs.length ≤ 140737488300000) (hbase : base ≤ w.heap.size) :
    Calls Tryz.prog 112 #[v, .int .u64 U, .int .i64 n] w fun e w' => ∃ v', e = .returned v' ∧ OwnB w' base v' (zs ++ beL U n n) ∧ Grew w w' v v' := by
  obtain ⟨i0, hi, hz0, hz1, hz2⟩ := info_parts Tryz.info5
  go_enter Tryz.func112, Tryz.ntmps112
  go_wp2_with fail
  go_loopw [0, 9] (fun key s wr => ∃ k : Nat, k ≤ n ∧ s = .int .i64 (k : Int) ∧ OwnB wr base key (zs ++ beL U n k) ∧ Grew w wr v key) (fun _ s _ => n - (intOf s).toNat)
  case atStart => exact ⟨0, Nat.zero_le _, rfl, by simpa [beL] using hown, Grew.refl _ _⟩
  case round =>
    obtain ⟨k, hk, rfl, ho, hg⟩ := hrel
    by_cases h8 : k < n
    · have h9 : (k : Int) < (n : Int) := by omega
      have hl : (zs ++ beL U n k).length = zs.length + k := by rw [List.length_append, beL_len]
      have HL := hide hl
      have es : ((n : Int) - 1 - (k : Int)) = ((n - 1 - k : Nat) : Int) := by omega
      have h10 : (0 : Int) ≤ 8 * ((n : Int) - 1 - (k : Int)) := by omega
      have h11 : (8 * ((n : Int) - 1 - (k : Int))).toNat = 8 * (n - 1 - k) := by omega
      clear hl
      go_wp2_with (at_builtin; refine wpList_append_own_at _ rfl (.tmp 12) (.tmp 21) 71 rfl base 5 i0 (.int .u8 0) 1 1 Tryz.underlying71 hi hz0 hz1 hz2 rfl (by decide) _ _ _ rfl (World.ownsRow.alloc ho _) ⟨wr.heap.size, 0, none⟩ 1 1 [.int .u8 (beN U n k)] rfl rfl (cell_one_new _ _ _) (by intro u hu; simp at hu; subst hu; rfl) (by rw [unhide HL]; unfold maxLen; omega) (by rw [unhide HL]; omega) (by have := hg.1.size; simp; omega) ?_; intro v' w1 hown' hgrow _ hat)
      have hg2 := Grew.app hg hgrow hat
      have ho2 := ownB_app (news := [beN U n k]) rfl hown'
      rw [List.append_assoc, ← beL_succ] at ho2
      refine ⟨⟨k + 1, by omega, by go_num, ho2, hg2⟩, ?_⟩
      simp only [intOf]
      omega
    · have hk8 : k = n := by omega
      have h9 : ¬ (k : Int) < (n : Int) := by omega
      subst hk8
      go_wp2
      go_ret
      exact ⟨_, rfl, ho, hg⟩
end Go.Proofs.YthbfomcmjjnikaaGreat
set_option linter.unusedSimpArgs false
set_option linter.unusedVariables false
namespace Go.Proofs.YthbfomcmjjnikaaGreat
open Go.RowKit Go.Sort

set_option maxHeartbeats 1000000 in
theorem rbytes_any (U : Int) (n : Nat) (w : World) (hn : n ≤ 8) :
    Calls Tryz.prog 32 #[.int .u64 U, .int .i64 n] w fun e w' => e = .returned (.string (toB (beL U n n))) ∧ Below w.heap.size w w' := by
  obtain ⟨i0, hi, hz0, hz1, hz2⟩ := info_parts Tryz.info5
  go_enter Tryz.func32, Tryz.ntmps32
  go_wp2_with fail
  go_loopw [5, 6] (fun b s wr => ∃ k j : Nat, k + j = n ∧ s = .int .i64 ((j : Int) - 1) ∧ OwnB wr w.heap.size b (beL U n k) ∧ Below w.heap.size w wr) (fun _ s _ => (intOf s + 1).toNat)
  case atStart => exact ⟨0, n, by omega, by first | rfl | go_num, World.ownsRow_nil _ _ _ _, Below.refl _ _⟩
  case round =>
    obtain ⟨k, j, hk, rfl, ho, hg⟩ := hrel
    by_cases h8 : 0 < j
    · obtain ⟨i, rfl⟩ : ∃ i, j = i + 1 := ⟨j - 1, by omega⟩
      have ei : (((i + 1 : Nat) : Int) - 1) = (i : Int) := by omega
      rw [ei]
      have t1 : (0 : Int) ≤ (i : Int) := by omega
      have hl : (beL U n k).length = k := beL_len _ _ _
      have HL := hide hl
      have eb : beN U n k = U / 2 ^ (8 * i) % 256 := by unfold beN; rw [show n - 1 - k = i by omega]
      have HEB := hide eb
      have HK := hide hk
      have hi7 : (i : Int) ≤ 7 := by omega
      have h10 : (0 : Int) ≤ 8 * (i : Int) := by omega
      have h11 : (8 * (i : Int)).toNat = 8 * i := by omega
      clear hl ei eb h8 hk
      go_wp2_with (at_builtin; refine wpList_append_own_at _ rfl (.tmp 13) (.tmp 19) 71 rfl w.heap.size 5 i0 (.int .u8 0) 1 1 Tryz.underlying71 hi hz0 hz1 hz2 rfl (by decide) _ _ _ rfl (World.ownsRow.alloc ho _) ⟨wr.heap.size, 0, none⟩ 1 1 [.int .u8 (U / 2 ^ (8 * i) % 256)] rfl rfl (cell_one_new _ _ _) (by intro u hu; simp at hu; subst hu; rfl) (by rw [unhide HL]; have := unhide HK; unfold maxLen; omega) (by rw [unhide HL]; have := unhide HK; omega) (by have := hg.size; simp; omega) ?_; intro v' w1 hown' hgrow _ hat)
      have hg2 := Grew.app (Grew.refl wr u5) hgrow hat
      have ho2 := ownB_app (news := [U / 2 ^ (8 * i) % 256]) rfl hown'
      rw [← unhide HEB, ← beL_succ] at ho2
      have hb1 : Below w.heap.size w w1 := hg.trans (hg2.below hg.size (fun g hh => (ownB_lt ho hh).1))
      go_roundw
      case rel => exact ⟨k + 1, i, by have := unhide HK; omega, by go_num, ho2, hb1⟩
      case measure => first | (simp [intOf]; done) | (simp only [intOf]; omega)
    · have hk8 : k = n := by omega
      have ej : j = 0 := by omega
      subst hk8 ej
      have t1 : (((0 : Nat) : Int) - 1) = -1 := by omega
      rw [t1]
      have hcv := convert_own ho
      go_wp2
      go_ret
      exact ⟨rfl, hg⟩
theorem pnull_any (x : Val) (w : World) : Calls Tryz.prog 102 #[x.v] w fun e w' => e = .returned (.bool (x.k == 0)) ∧ Below w.heap.size w w' := by
  rw [x.open_]
  go_enter Tryz.func102, Tryz.ntmps102
  go_wp2
  go_ret
  exact ⟨rfl, (Below.refl _ _).alloc (Nat.le_refl _) _⟩
/-- So many bytes for k numbers of d bits. -/
def bytesN (k d : Nat) : Nat := (k * d + 7) / 8
theorem bytesfor_any (k d : Nat) (w : World) (hk : k ≤ 1000000) (hd : d ≤ 64) : Calls Tryz.prog 157 #[.int .i64 k, .int .i64 d] w fun e w' => e = .returned (.int .i64 (bytesN k d)) ∧ w' = w := by
  have hm : (k : Int) * (d : Int) ≤ 64000000 := by
    have := Nat.mul_le_mul hk hd
    have e : ((k * d : Nat) : Int) = (k : Int) * (d : Int) := by simp
    omega
  have hm0 : (0 : Int) ≤ (k : Int) * (d : Int) := Int.mul_nonneg (by omega) (by omega)
  have e1 : ((k : Int) * (d : Int) + 7).tdiv 8 = (bytesN k d : Int) := by
    rw [Int.tdiv_eq_ediv_of_nonneg (by omega)]
    unfold bytesN
    simp
  obtain ⟨M, hM⟩ : ∃ M, M = (k : Int) * (d : Int) := ⟨_, rfl⟩
  rw [← hM] at hm hm0 e1
  go_enter Tryz.func157, Tryz.ntmps157
  go_wp2
  try rw [← hM]
  go_ret
  refine ⟨?_, rfl⟩
  first | rw [e1] | rw [e2] | (rw [Int.tdiv_eq_ediv_of_nonneg (by omega)] at e1; rw [e1]; rfl)
end Go.Proofs.YthbfomcmjjnikaaGreat

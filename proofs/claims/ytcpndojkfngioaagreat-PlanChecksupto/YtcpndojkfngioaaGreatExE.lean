import Derived.Test.YtcpndojkfngioaaGreatCellA
import Derived.Deep.DeepCutAuto
import Derived.Deep.DrawnRows
import Derived.Lib.Bytealg
set_option linter.unusedSimpArgs false
set_option linter.unusedVariables false
namespace Go.Proofs.YtcpndojkfngioaaGreat
open Go.RowKit Go.Sort

def cleanV (x : Val) : Val := if x.k == 1 then .num x.n else if x.k == 2 then .str x.s else .null

theorem text_any (s : ByteArray) (w : World) :
    Calls Tryz.prog 99 #[.string s] w fun e w' => e = .returned (Val.str s).v ∧ Below w.heap.size w w' := by
  unfold Val.v Val.str
  go_enter Tryz.func99, Tryz.ntmps99
  go_wp2
  exact bodyPost_ret (v := .agg #[.int .i64 2, .int .i64 0, .string s]) (by simp [results, Tryz.results99, go_sem]) rfl ⟨rfl, (Below.refl _ _).alloc (Nat.le_refl _) _⟩
theorem rnum_any (n : Int) (w : World) :
    Calls Tryz.prog 54 #[.int .i64 n] w fun e w' => e = .returned (Val.num n).v ∧ Below w.heap.size w w' := by
  unfold Val.v Val.num
  go_enter Tryz.func54, Tryz.ntmps54
  go_wp2
  exact bodyPost_ret (v := .agg #[.int .i64 1, .int .i64 n, .string ⟨#[]⟩]) (by simp [results, Tryz.results54, go_sem]) rfl ⟨rfl, (Below.refl _ _).alloc (Nat.le_refl _) _⟩
theorem rstr_any (s : ByteArray) (w : World) :
    Calls Tryz.prog 55 #[.string s] w fun e w' => e = .returned (Val.str s).v ∧ Below w.heap.size w w' := by
  unfold Val.v Val.str
  go_enter Tryz.func55, Tryz.ntmps55
  go_wp2
  exact bodyPost_ret (v := .agg #[.int .i64 2, .int .i64 0, .string s]) (by simp [results, Tryz.results55, go_sem]) rfl ⟨rfl, (Below.refl _ _).alloc (Nat.le_refl _) _⟩
theorem none_any (w : World) :
    Calls Tryz.prog 56 #[] w fun e w' => e = .returned Val.null.v ∧ Below w.heap.size w w' := by
  unfold Val.v Val.null
  go_enter Tryz.func56, Tryz.ntmps56
  go_wp2
  exact bodyPost_ret (v := .agg #[.int .i64 0, .int .i64 0, .string ⟨#[]⟩]) (by simp [results, Tryz.results56, go_sem]) rfl ⟨rfl, (Below.refl _ _).alloc (Nat.le_refl _) _⟩

set_option maxHeartbeats 1000000 in
theorem clean_any (x : Val) (w : World) :
    Calls Tryz.prog 69 #[x.v] w fun e w' => e = .returned (cleanV x).v ∧ Below w.heap.size w w' := by
  rw [x.open_]
  rcases Bool.eq_false_or_eq_true (x.k == 1) with k1 | k1
  · have hv : cleanV x = .num x.n := by simp [cleanV, k1]
    rw [hv]
    clear hv
    go_enter Tryz.func69, Tryz.ntmps69
    go_wp2_with (go_at_call 98; refine (number_any _ _).mono ?_; rintro e w1 ⟨rfl, hb1⟩; obtain ⟨hc1, hf1⟩ := bcell hb1; rw [Val.open_])
    refine bodyPost_ret (v := (Val.num x.n).v) (by simp [results, Tryz.results69, go_sem, Val.v, Val.num, hc1, hf1]) rfl ⟨rfl, ?_⟩
    (repeat (first | exact Below.refl _ _ | refine Below.alloc ?_ (by simp <;> omega) _ | refine Below.setCell ?_ (by simp <;> omega) _ | refine Below.trans ?_ (Below.mono (by assumption) (by first | omega | (simp; omega)))))
  · rcases Bool.eq_false_or_eq_true (x.k == 2) with k2 | k2
    · have hv : cleanV x = .str x.s := by simp [cleanV, k1, k2]
      rw [hv]
      clear hv
      go_enter Tryz.func69, Tryz.ntmps69
      go_wp2_with (go_at_call 99; refine (text_any _ _).mono ?_; rintro e w1 ⟨rfl, hb1⟩; obtain ⟨hc1, hf1⟩ := bcell hb1; rw [Val.open_])
      refine bodyPost_ret (v := (Val.str x.s).v) (by simp [results, Tryz.results69, go_sem, Val.v, Val.str, hc1, hf1]) rfl ⟨rfl, ?_⟩
      (repeat (first | exact Below.refl _ _ | refine Below.alloc ?_ (by simp <;> omega) _ | refine Below.setCell ?_ (by simp <;> omega) _ | refine Below.trans ?_ (Below.mono (by assumption) (by first | omega | (simp; omega)))))
    · have hv : cleanV x = .null := by simp [cleanV, k1, k2]
      rw [hv]
      clear hv
      go_enter Tryz.func69, Tryz.ntmps69
      go_wp2
      refine bodyPost_ret (v := Val.null.v) (by simp [results, Tryz.results69, go_sem, Val.v, Val.null]) rfl ⟨rfl, ?_⟩
      (repeat (first | exact Below.refl _ _ | refine Below.alloc ?_ (by simp <;> omega) _ | refine Below.setCell ?_ (by simp <;> omega) _))

set_option maxHeartbeats 1000000 in
theorem rclean_any (x : Val) (w : World) :
    Calls Tryz.prog 26 #[x.v] w fun e w' => e = .returned (cleanV x).v ∧ Below w.heap.size w w' := by
  rw [x.open_]
  rcases Bool.eq_false_or_eq_true (x.k == 1) with k1 | k1
  · have hv : cleanV x = .num x.n := by simp [cleanV, k1]
    rw [hv]
    clear hv
    go_enter Tryz.func26, Tryz.ntmps26
    go_wp2_with (go_at_call 54; refine (rnum_any _ _).mono ?_; rintro e w1 ⟨rfl, hb1⟩; obtain ⟨hc1, hf1⟩ := bcell hb1; rw [Val.open_])
    refine bodyPost_ret (v := (Val.num x.n).v) (by simp [results, Tryz.results26, go_sem, Val.v, Val.num, hc1, hf1]) rfl ⟨rfl, ?_⟩
    (repeat (first | exact Below.refl _ _ | refine Below.alloc ?_ (by simp <;> omega) _ | refine Below.setCell ?_ (by simp <;> omega) _ | refine Below.trans ?_ (Below.mono (by assumption) (by first | omega | (simp; omega)))))
  · rcases Bool.eq_false_or_eq_true (x.k == 2) with k2 | k2
    · have hv : cleanV x = .str x.s := by simp [cleanV, k1, k2]
      rw [hv]
      clear hv
      go_enter Tryz.func26, Tryz.ntmps26
      go_wp2_with (go_at_call 55; refine (rstr_any _ _).mono ?_; rintro e w1 ⟨rfl, hb1⟩; obtain ⟨hc1, hf1⟩ := bcell hb1; rw [Val.open_])
      refine bodyPost_ret (v := (Val.str x.s).v) (by simp [results, Tryz.results26, go_sem, Val.v, Val.str, hc1, hf1]) rfl ⟨rfl, ?_⟩
      (repeat (first | exact Below.refl _ _ | refine Below.alloc ?_ (by simp <;> omega) _ | refine Below.setCell ?_ (by simp <;> omega) _ | refine Below.trans ?_ (Below.mono (by assumption) (by first | omega | (simp; omega)))))
    · have hv : cleanV x = .null := by simp [cleanV, k1, k2]
      rw [hv]
      clear hv
      go_enter Tryz.func26, Tryz.ntmps26
      go_wp2_with (go_at_call 56; refine (none_any _).mono ?_; rintro e w1 ⟨rfl, hb1⟩; obtain ⟨hc1, hf1⟩ := bcell hb1; rw [Val.open_])
      refine bodyPost_ret (v := Val.null.v) (by simp [results, Tryz.results26, go_sem, Val.v, Val.null, hc1, hf1]) rfl ⟨rfl, ?_⟩
      (repeat (first | exact Below.refl _ _ | refine Below.alloc ?_ (by simp <;> omega) _ | refine Below.setCell ?_ (by simp <;> omega) _ | refine Below.trans ?_ (Below.mono (by assumption) (by first | omega | (simp; omega)))))

/-- -1, 0 or 1: the order of two numbers; of two texts. -/
def cmpI (x y : Int) : Int := if x < y then -1 else if y < x then 1 else 0

def cmpB (x y : ByteArray) : Int := Lib.compareBytes x.data.toList y.data.toList
/-- The first of three that is not 0. -/
def orI (x y z : Int) : Int := if x ≠ 0 then x else if y ≠ 0 then y else z

end Go.Proofs.YtcpndojkfngioaaGreat
set_option linter.unusedSimpArgs false
set_option linter.unusedVariables false
namespace Go.Proofs.YtcpndojkfngioaaGreat
open Go.RowKit Go.Sort
attribute [local go_sem ↓] Go.wp_at_zero Go.wp_at_succ

theorem below_step {W0 w' w1 : World} (h : Below W0.heap.size W0 w') (h1 : Below w'.heap.size w' w1) : Below W0.heap.size W0 w1 := h.trans (h1.mono h.size)
theorem below_alloc {W0 w' : World} (h : Below W0.heap.size W0 w') (o : Obj) : Below W0.heap.size W0 (w'.alloc o) := h.alloc h.size o
def BoxAt (w : World) (b : Nat) (x : Val) : Prop := w.cell? ⟨b, 0, none⟩ = some (.int .i64 x.k) ∧ w.cell? ⟨b, 1, none⟩ = some (.int .i64 x.n) ∧ w.cell? ⟨b, 2, none⟩ = some (.string x.s)
theorem BoxAt.later {w w' : World} {b : Nat} {x : Val} (h : BoxAt w b x) (hb : Below w.heap.size w w') : BoxAt w' b x :=
  ⟨cell_later hb h.1, cell_later hb h.2.1, cell_later hb h.2.2⟩
/-- A box that may be written. -/
def FreeAt (w : World) (b : Nat) : Prop := w.frozen? ⟨b, 0, none⟩ = false ∧ w.frozen? ⟨b, 1, none⟩ = false ∧ w.frozen? ⟨b, 2, none⟩ = false
theorem FreeAt.later {w w' : World} {b : Nat} (h : FreeAt w b) (hl : b < w.heap.size) (hb : Below w.heap.size w w') : FreeAt w' b := by
  obtain ⟨hc, hf⟩ := bcell hb
  unfold FreeAt
  rw [hf _ _ hl, hf _ _ hl, hf _ _ hl]
  exact h

def boxes (w : World) (a b : Val) : World := (w.alloc (.cells #[.int .i64 a.k, .int .i64 a.n, .string a.s] 65)).alloc (.cells #[.int .i64 b.k, .int .i64 b.n, .string b.s] 65)
theorem boxes_size (w : World) (a b : Val) : (boxes w a b).heap.size = w.heap.size + 1 + 1 := by simp [boxes]
theorem boxes_facts {w w' : World} {a b : Val} (h : Below (boxes w a b).heap.size (boxes w a b) w') :
    BoxAt w' w.heap.size a ∧ BoxAt w' (w.heap.size + 1) b ∧ FreeAt w' w.heap.size ∧ FreeAt w' (w.heap.size + 1) ∧ w.heap.size + 1 < w'.heap.size := by
  have hs := h.size
  rw [boxes_size] at hs
  obtain ⟨hc, hf⟩ := bcell h
  refine ⟨⟨?_, ?_, ?_⟩, ⟨?_, ?_, ?_⟩, ⟨?_, ?_, ?_⟩, ⟨?_, ?_, ?_⟩, by omega⟩
  all_goals first | (rw [hc _ _ (by rw [boxes_size]; omega)]; simp [boxes, go_sem]; done) | (rw [hf _ _ (by rw [boxes_size]; omega)]; simp [boxes, go_sem]; done)
theorem boxes_below {w w' : World} {a b : Val} (h : Below (boxes w a b).heap.size (boxes w a b) w') : Below w.heap.size w w' :=
  (((Below.refl _ _).alloc (Nat.le_refl _) _).alloc (by simp) _).trans (h.mono (by rw [boxes_size]; omega))
theorem boxes_drew (w : World) (a b : Val) : Below (boxes w a b).heap.size (boxes w a b) (boxes w a b).drew := (Below.refl _ _).drew

theorem put_two {w w2 : World} {a b : Val} (ca cb : Val) (h : Below (boxes w a b).heap.size (boxes w a b) w2) :
    BoxAt ((((((w2.setCell ⟨w.heap.size, 0, none⟩ (.int .i64 ca.k)).setCell ⟨w.heap.size, 1, none⟩ (.int .i64 ca.n)).setCell ⟨w.heap.size, 2, none⟩ (.string ca.s)).setCell ⟨w.heap.size + 1, 0, none⟩ (.int .i64 cb.k)).setCell ⟨w.heap.size + 1, 1, none⟩ (.int .i64 cb.n)).setCell ⟨w.heap.size + 1, 2, none⟩ (.string cb.s)) w.heap.size ca ∧
    BoxAt ((((((w2.setCell ⟨w.heap.size, 0, none⟩ (.int .i64 ca.k)).setCell ⟨w.heap.size, 1, none⟩ (.int .i64 ca.n)).setCell ⟨w.heap.size, 2, none⟩ (.string ca.s)).setCell ⟨w.heap.size + 1, 0, none⟩ (.int .i64 cb.k)).setCell ⟨w.heap.size + 1, 1, none⟩ (.int .i64 cb.n)).setCell ⟨w.heap.size + 1, 2, none⟩ (.string cb.s)) (w.heap.size + 1) cb ∧
    Below w.heap.size w ((((((w2.setCell ⟨w.heap.size, 0, none⟩ (.int .i64 ca.k)).setCell ⟨w.heap.size, 1, none⟩ (.int .i64 ca.n)).setCell ⟨w.heap.size, 2, none⟩ (.string ca.s)).setCell ⟨w.heap.size + 1, 0, none⟩ (.int .i64 cb.k)).setCell ⟨w.heap.size + 1, 1, none⟩ (.int .i64 cb.n)).setCell ⟨w.heap.size + 1, 2, none⟩ (.string cb.s)) := by
  obtain ⟨⟨a0, a1, a2⟩, ⟨b0, b1, b2⟩, ⟨f0, f1, f2⟩, ⟨g0, g1, g2⟩, hz⟩ := boxes_facts h
  refine ⟨⟨by simp [go_sem, *], by simp [go_sem, *], by simp [go_sem, *]⟩, ⟨by simp [go_sem, *], by simp [go_sem, *], by simp [go_sem, *]⟩, ?_⟩
  exact ((((((boxes_below h).setCell (by simp) _).setCell (by simp) _).setCell (by simp) _).setCell (by simp) _).setCell (by simp) _).setCell (by simp) _

def ordV (x y : Val) : Int := orI (cmpI (cleanV x).k (cleanV y).k) (cmpI (cleanV x).n (cleanV y).n) (cmpB (cleanV x).s (cleanV y).s)

theorem less_cmp : ∀ (x y : List UInt8), (if x == y then 0 else if Op.bytesLess x y then -1 else 1 : Int) = Lib.compareBytes x y
  | [], [] => by simp [Lib.compareBytes]
  | [], b :: y => by simp [Lib.compareBytes, Op.bytesLess]
  | a :: x, [] => by simp [Lib.compareBytes, Op.bytesLess]
  | a :: x, b :: y => by
    rw [Lib.compareBytes]
    by_cases h : a < b
    · have hne : a ≠ b := fun e => by subst e; exact absurd h (UInt8.lt_irrefl a)
      simp [h, Op.bytesLess, hne]
    · by_cases h2 : b < a
      · have hne : a ≠ b := fun e => by subst e; exact absurd h2 (UInt8.lt_irrefl a)
        simp [h, h2, Op.bytesLess, hne]
      · have e : a = b := UInt8.le_antisymm (UInt8.not_lt.1 h2) (UInt8.not_lt.1 h)
        subst e
        rw [← less_cmp x y]
        simp [h, Op.bytesLess]
theorem cmpI_cmp (x y : Int) : (if x == y then 0 else if decide (x < y) then -1 else 1 : Int) = cmpI x y := by
  unfold cmpI
  by_cases h : x = y
  · subst h; simp
  · by_cases h2 : x < y
    · simp [h, h2]
    · have : y < x := by omega
      simp [h, h2, this]

def rcmpI (x y : Bool) : Int := if y then 0 else if x then -1 else 1
theorem clean_s {x : Val} (h : (cleanV x).k = 1) : (cleanV x).s = ⟨#[]⟩ := by
  by_cases h1 : (x.k == 1) = true
  · have e : cleanV x = .num x.n := by simp only [cleanV, h1, if_true]
    rw [e]; rfl
  · by_cases h2 : (x.k == 2) = true
    · have e : cleanV x = .str x.s := by simp only [cleanV, h1, h2, if_true]; rfl
      rw [e] at h; simp [Val.str] at h
    · have e : cleanV x = .null := by simp only [cleanV, h1, h2]; rfl
      rw [e]; rfl
theorem orI_last (c : Int) : orI 0 c 0 = c := by unfold orI; by_cases h : c = 0 <;> simp [h]
theorem orI_third (c : Int) : orI 0 0 c = c := by unfold orI; simp
theorem clean_n {x : Val} (h : ¬ (cleanV x).k = 1) : (cleanV x).n = 0 := by
  unfold cleanV at *
  split
  · rename_i h1; simp [h1, Val.num] at h
  · split <;> rfl
theorem cmpB_nil : cmpB ⟨#[]⟩ ⟨#[]⟩ = 0 := rfl
theorem cmpI_self (x : Int) : cmpI x x = 0 := by simp [cmpI]
theorem ord_kinds (a b : Val) (h : ¬ (cleanV a).k = (cleanV b).k) : ordV a b = rcmpI (decide ((cleanV a).k < (cleanV b).k)) false := by
  unfold ordV rcmpI orI cmpI
  by_cases h2 : (cleanV a).k < (cleanV b).k
  · simp [h2]
  · have : (cleanV b).k < (cleanV a).k := by omega
    simp [h2, this]
theorem ord_nums (a b : Val) (h : (cleanV a).k = (cleanV b).k) (h1 : (cleanV a).k = 1) : ordV a b = rcmpI (decide ((cleanV a).n < (cleanV b).n)) ((cleanV a).n == (cleanV b).n) := by
  unfold ordV
  rw [clean_s h1, clean_s (h ▸ h1), h, cmpI_self, cmpB_nil, orI_last, ← cmpI_cmp, rcmpI]
theorem ord_texts (a b : Val) (h : (cleanV a).k = (cleanV b).k) (h1 : ¬ (cleanV a).k = 1) : ordV a b = rcmpI (Op.bytesLess (cleanV a).s.toList (cleanV b).s.toList) ((cleanV a).s.toList == (cleanV b).s.toList) := by
  unfold ordV
  rw [clean_n h1, clean_n (h ▸ h1), h, cmpI_self, cmpI_self, rcmpI, orI_third]
  unfold cmpB
  rw [← less_cmp (cleanV a).s.data.toList (cleanV b).s.data.toList]
  simp only [Lib.toList_data]

end Go.Proofs.YtcpndojkfngioaaGreat
set_option linter.unusedSimpArgs false
set_option linter.unusedVariables false
namespace Go.Proofs.YtcpndojkfngioaaGreat
open Go.RowKit Go.Sort

theorem notV_eq (x : Val) (h : (x.k == 1) = true) : notV x = truthV (x.n == 0) := by
  have h' : x.k = 1 := by simpa using h
  have : (!trueB x) = (x.n == 0) := by simp [trueB, h', bne]
  rw [notV, if_pos h', this]


def catV (a b : Val) : Val := if a.k == 2 && b.k == 2 && decide (a.s.size + b.s.size ≤ 1000) then .str (a.s ++ b.s) else .null

theorem cat_clean (a b : Val) : catV a b = if (cleanV a).k == 2 && (cleanV b).k == 2 && decide ((cleanV a).s.size + (cleanV b).s.size ≤ 1000) then .str ((cleanV a).s ++ (cleanV b).s) else .null := by
  unfold catV cleanV
  rcases Bool.eq_false_or_eq_true (a.k == 1) with a1 | a1 <;> rcases Bool.eq_false_or_eq_true (b.k == 1) with b1 | b1 <;> rcases Bool.eq_false_or_eq_true (a.k == 2) with a2 | a2 <;> rcases Bool.eq_false_or_eq_true (b.k == 2) with b2 | b2 <;> simp [a1, b1, a2, b2, Val.num, Val.str, Val.null]
  all_goals simp at a1 a2 b1 b2
  all_goals omega

theorem clean_size (x : Val) : (cleanV x).s.size ≤ x.s.size := by
  unfold cleanV
  split
  · show (⟨#[]⟩ : ByteArray).size ≤ _; exact Nat.zero_le _
  · split
    · exact Nat.le_refl _
    · show (⟨#[]⟩ : ByteArray).size ≤ _; exact Nat.zero_le _

/-- The box of a result, as an alloc leaves it. -/
def ZeroAt (w : World) (b : Nat) : Prop := w.cell? ⟨b, 0, none⟩ = some (.int .i64 0) ∧ w.cell? ⟨b, 1, none⟩ = some (.int .i64 0) ∧ w.cell? ⟨b, 2, none⟩ = some (.string ⟨#[]⟩) ∧ w.frozen? ⟨b, 0, none⟩ = false ∧ w.frozen? ⟨b, 1, none⟩ = false ∧ w.frozen? ⟨b, 2, none⟩ = false
theorem ZeroAt.later {w w1 : World} {b : Nat} (h : ZeroAt w b) (hb : Below w.heap.size w w1) : ZeroAt w1 b := by
  obtain ⟨h0, h1, h2, f0, f1, f2⟩ := h
  obtain ⟨hc, hf⟩ := bcell hb
  have hl : b < w.heap.size := World.block_lt_of_cell? w _ h0
  unfold ZeroAt
  rw [hc _ _ hl, hc _ _ hl, hc _ _ hl, hf _ _ hl, hf _ _ hl, hf _ _ hl]
  exact ⟨h0, h1, h2, f0, f1, f2⟩
abbrev Zero23 : Obj := .cells #[.int .i64 0, .int .i64 0, .string ⟨#[]⟩] 65
def boxes3 (w : World) (a b : Val) : World := (boxes w a b).alloc Zero23
theorem boxes3_size (w : World) (a b : Val) : (boxes3 w a b).heap.size = w.heap.size + 1 + 1 + 1 := by simp [boxes3, boxes_size]
theorem boxes3_drew (w : World) (a b : Val) : Below (boxes3 w a b).heap.size (boxes3 w a b) (boxes3 w a b).drew := (Below.refl _ _).drew
theorem boxes3_facts {w w' : World} {a b : Val} (h : Below (boxes3 w a b).heap.size (boxes3 w a b) w') :
    BoxAt w' w.heap.size a ∧ BoxAt w' (w.heap.size + 1) b ∧ FreeAt w' w.heap.size ∧ FreeAt w' (w.heap.size + 1) ∧ ZeroAt w' (w.heap.size + 1 + 1) ∧ w.heap.size + 1 + 1 < w'.heap.size := by
  have hs := h.size
  rw [boxes3_size] at hs
  obtain ⟨hc, hf⟩ := bcell h
  refine ⟨⟨?_, ?_, ?_⟩, ⟨?_, ?_, ?_⟩, ⟨?_, ?_, ?_⟩, ⟨?_, ?_, ?_⟩, ⟨?_, ?_, ?_, ?_, ?_, ?_⟩, by omega⟩
  all_goals first | (rw [hc _ _ (by rw [boxes3_size]; omega)]; simp [boxes3, boxes, go_sem]; done) | (rw [hf _ _ (by rw [boxes3_size]; omega)]; simp [boxes3, boxes, go_sem]; done)
theorem boxes3_below {w w' : World} {a b : Val} (h : Below (boxes3 w a b).heap.size (boxes3 w a b) w') : Below w.heap.size w w' :=
  ((((Below.refl _ _).alloc (Nat.le_refl _) _).alloc (by simp) _).alloc (by simp; omega) _).trans (h.mono (by rw [boxes3_size]; omega))
theorem put_two3 {w w2 : World} {a b : Val} (ca cb : Val) (h : Below (boxes3 w a b).heap.size (boxes3 w a b) w2) :
    BoxAt ((((((w2.setCell ⟨w.heap.size, 0, none⟩ (.int .i64 ca.k)).setCell ⟨w.heap.size, 1, none⟩ (.int .i64 ca.n)).setCell ⟨w.heap.size, 2, none⟩ (.string ca.s)).setCell ⟨w.heap.size + 1, 0, none⟩ (.int .i64 cb.k)).setCell ⟨w.heap.size + 1, 1, none⟩ (.int .i64 cb.n)).setCell ⟨w.heap.size + 1, 2, none⟩ (.string cb.s)) w.heap.size ca ∧
    BoxAt ((((((w2.setCell ⟨w.heap.size, 0, none⟩ (.int .i64 ca.k)).setCell ⟨w.heap.size, 1, none⟩ (.int .i64 ca.n)).setCell ⟨w.heap.size, 2, none⟩ (.string ca.s)).setCell ⟨w.heap.size + 1, 0, none⟩ (.int .i64 cb.k)).setCell ⟨w.heap.size + 1, 1, none⟩ (.int .i64 cb.n)).setCell ⟨w.heap.size + 1, 2, none⟩ (.string cb.s)) (w.heap.size + 1) cb ∧
    ZeroAt ((((((w2.setCell ⟨w.heap.size, 0, none⟩ (.int .i64 ca.k)).setCell ⟨w.heap.size, 1, none⟩ (.int .i64 ca.n)).setCell ⟨w.heap.size, 2, none⟩ (.string ca.s)).setCell ⟨w.heap.size + 1, 0, none⟩ (.int .i64 cb.k)).setCell ⟨w.heap.size + 1, 1, none⟩ (.int .i64 cb.n)).setCell ⟨w.heap.size + 1, 2, none⟩ (.string cb.s)) (w.heap.size + 1 + 1) ∧
    Below w.heap.size w ((((((w2.setCell ⟨w.heap.size, 0, none⟩ (.int .i64 ca.k)).setCell ⟨w.heap.size, 1, none⟩ (.int .i64 ca.n)).setCell ⟨w.heap.size, 2, none⟩ (.string ca.s)).setCell ⟨w.heap.size + 1, 0, none⟩ (.int .i64 cb.k)).setCell ⟨w.heap.size + 1, 1, none⟩ (.int .i64 cb.n)).setCell ⟨w.heap.size + 1, 2, none⟩ (.string cb.s)) := by
  obtain ⟨⟨a0, a1, a2⟩, ⟨b0, b1, b2⟩, ⟨f0, f1, f2⟩, ⟨g0, g1, g2⟩, ⟨z0, z1, z2, z3, z4, z5⟩, hz⟩ := boxes3_facts h
  refine ⟨⟨by simp [go_sem, *], by simp [go_sem, *], by simp [go_sem, *]⟩, ⟨by simp [go_sem, *], by simp [go_sem, *], by simp [go_sem, *]⟩, ⟨by simp [go_sem, *], by simp [go_sem, *], by simp [go_sem, *], by simp [go_sem, *], by simp [go_sem, *], by simp [go_sem, *]⟩, ?_⟩
  exact ((((((boxes3_below h).setCell (by simp) _).setCell (by simp) _).setCell (by simp) _).setCell (by simp) _).setCell (by simp) _).setCell (by simp) _

end Go.Proofs.YtcpndojkfngioaaGreat
set_option linter.unusedSimpArgs false
set_option linter.unusedVariables false
namespace Go.Proofs.YtcpndojkfngioaaGreat
open Go.RowKit Go.Sort

def nullB (x : Val) : Bool := (cleanV x).k == 0
theorem nullB_eq (x : Val) : nullB x = (x.k != 1 && x.k != 2) := by
  unfold nullB cleanV
  rcases Bool.eq_false_or_eq_true (x.k == 1) with h1 | h1 <;> rcases Bool.eq_false_or_eq_true (x.k == 2) with h2 | h2 <;> simp [h1, h2, bne, Val.num, Val.str, Val.null]

def testB (op o : Int) : Option Bool :=
  if op == 12 then some (o == 0) else if op == 13 then some (o != 0) else if op == 14 then some (decide (o < 0)) else if op == 15 then some (decide (o ≤ 0)) else if op == 16 then some (decide (0 < o)) else if op == 17 then some (decide (0 ≤ o)) else none
def testR (op o : Int) : Val := match testB op o with | some t => truthV t | none => .null
def testV (op : Int) (a b : Val) : Val := if nullB a || nullB b then .null else testR op (ordV a b)

theorem testR_some {op o : Int} {t : Bool} (h : testB op o = some t) : testR op o = truthV t := by simp [testR, h]
theorem testR_none {op o : Int} (h : testB op o = none) : testR op o = .null := by simp [testR, h]

theorem clean_clean (x : Val) : cleanV (cleanV x) = cleanV x := by
  unfold cleanV
  rcases Bool.eq_false_or_eq_true (x.k == 1) with h1 | h1 <;> rcases Bool.eq_false_or_eq_true (x.k == 2) with h2 | h2 <;> simp [h1, h2, Val.num, Val.str, Val.null]
theorem ord_clean (a b : Val) : ordV (cleanV a) (cleanV b) = ordV a b := by unfold ordV; rw [clean_clean, clean_clean]

end Go.Proofs.YtcpndojkfngioaaGreat
set_option linter.unusedSimpArgs false
set_option linter.unusedVariables false
namespace Go.Proofs.YtcpndojkfngioaaGreat
open Go.RowKit Go.Sort

/-- An expression. -/
inductive Ex where
  | mk (op n : Int) (v : Val) (args : List Ex)
def Ex.op : Ex → Int | .mk o _ _ _ => o
def Ex.n : Ex → Int | .mk _ n _ _ => n
def Ex.v : Ex → Val | .mk _ _ v _ => v
def Ex.args : Ex → List Ex | .mk _ _ _ l => l
mutual
/-- How many nodes. -/
def Ex.size : Ex → Nat
  | .mk _ _ _ l => Ex.sizes l + 1
def Ex.sizes : List Ex → Nat
  | [] => 0
  | e :: l => e.size + Ex.sizes l
end
theorem Ex.size_mk (e : Ex) : e.size = Ex.sizes e.args + 1 := by cases e; rw [Ex.size]; rfl
theorem Ex.size_mem : ∀ {l : List Ex} {e : Ex}, e ∈ l → e.size ≤ Ex.sizes l
  | [], _, h => by cases h
  | x :: l, e, h => by
    rw [Ex.sizes]
    rcases List.mem_cons.1 h with rfl | h
    · omega
    · have := Ex.size_mem h; omega
theorem Ex.size_arg {e x : Ex} {i : Nat} (h : e.args[i]? = some x) : x.size < e.size := by
  have := Ex.size_mem (List.mem_of_getElem? h)
  rw [Ex.size_mk e]; omega
/-- As a value: its parts lie from a on. -/
def Ex.val (e : Ex) (a : Option Addr) (c : Nat) : Value := .agg #[.int .i64 e.op, .int .i64 e.n, .int .i64 e.v.k, .int .i64 e.v.n, .string e.v.s, .slice a e.args.length c]
theorem Ex.val_open (e : Ex) (a : Option Addr) (c : Nat) : e.val a c = .agg #[.int .i64 e.op, .int .i64 e.n, .int .i64 e.v.k, .int .i64 e.v.n, .string e.v.s, .slice a e.args.length c] := rfl
mutual
/-- A node lies in the cells from off on of block b. -/
def Ex.at (w : World) (b off : Nat) : Ex → Prop
  | .mk op n v l => ∃ a c, (w.cell? ⟨b, off, none⟩ = some (.int .i64 op) ∧ w.cell? ⟨b, off + 1, none⟩ = some (.int .i64 n) ∧ w.cell? ⟨b, off + 2, none⟩ = some (.int .i64 v.k) ∧ w.cell? ⟨b, off + 3, none⟩ = some (.int .i64 v.n) ∧ w.cell? ⟨b, off + 4, none⟩ = some (.string v.s) ∧ w.cell? ⟨b, off + 5, none⟩ = some (.slice a l.length c)) ∧ Ex.all w a l
def Ex.all (w : World) (a : Option Addr) : List Ex → Prop
  | [] => True
  | e :: l => ∃ b off, a = some ⟨b, off, none⟩ ∧ Ex.at w b off e ∧ (Ex.all w (some ⟨b, off + 6, none⟩) l)
end
theorem clater {w w' : World} {b o : Nat} {v : Value} (h : w.cell? ⟨b, o, none⟩ = some v) (hb : Below w.heap.size w w') : w'.cell? ⟨b, o, none⟩ = some v := by
  rw [(bcell hb).1 b o (World.block_lt_of_cell? _ _ h)]; exact h
mutual
theorem Ex.at_later : ∀ (e : Ex) {w w' : World} {b off : Nat}, Ex.at w b off e → Below w.heap.size w w' → Ex.at w' b off e
  | .mk op n v l, w, w', b, off, h, hb => by
    rw [Ex.at] at h ⊢
    obtain ⟨a, c, ⟨h0, h1, h2, h3, h4, h5⟩, h6⟩ := h
    exact ⟨a, c, ⟨clater h0 hb, clater h1 hb, clater h2 hb, clater h3 hb, clater h4 hb, clater h5 hb⟩, Ex.all_later l h6 hb⟩
theorem Ex.all_later : ∀ (l : List Ex) {w w' : World} {a : Option Addr}, Ex.all w a l → Below w.heap.size w w' → Ex.all w' a l
  | [], w, w', a, h, hb => by rw [Ex.all]; trivial
  | e :: l, w, w', a, h, hb => by
    rw [Ex.all] at h ⊢
    obtain ⟨b, off, h1, h2, h3⟩ := h
    exact ⟨b, off, h1, Ex.at_later e h2 hb, Ex.all_later l h3 hb⟩
end
theorem Ex.all_get {w : World} : ∀ {l : List Ex} {a : Option Addr} {i : Nat} {e : Ex}, Ex.all w a l → l[i]? = some e → ∃ b off, a = some ⟨b, off, none⟩ ∧ Ex.at w b (off + i * 6) e
  | [], _, _, _, _, hi => by simp at hi
  | x :: l, a, 0, e, h, hi => by
    rw [Ex.all] at h
    obtain ⟨b, off, h1, h2, _⟩ := h
    simp at hi
    subst hi
    exact ⟨b, off, h1, by simpa using h2⟩
  | x :: l, a, i + 1, e, h, hi => by
    rw [Ex.all] at h
    obtain ⟨b, off, h1, _, h3⟩ := h
    obtain ⟨b', off', e1, e2⟩ := Ex.all_get h3 (by simpa using hi : l[i]? = some e)
    injection e1 with e1
    injection e1 with e1 e3
    subst e1 e3
    refine ⟨b, off, h1, ?_⟩
    rw [show off + (i + 1) * 6 = off + 6 + i * 6 by omega]
    exact e2
theorem Ex.at_open {w : World} {b off : Nat} {e : Ex} (h : e.at w b off) : ∃ a c, (w.cell? ⟨b, off, none⟩ = some (.int .i64 e.op) ∧ w.cell? ⟨b, off + 1, none⟩ = some (.int .i64 e.n) ∧ w.cell? ⟨b, off + 2, none⟩ = some (.int .i64 e.v.k) ∧ w.cell? ⟨b, off + 3, none⟩ = some (.int .i64 e.v.n) ∧ w.cell? ⟨b, off + 4, none⟩ = some (.string e.v.s) ∧ w.cell? ⟨b, off + 5, none⟩ = some (.slice a e.args.length c)) ∧ Ex.all w a e.args := by
  cases e with
  | mk op n v l => rw [Ex.at] at h; exact h
/-- A node's box. -/
abbrev Ex.box (e : Ex) (a : Option Addr) (c : Nat) : Obj := .cells #[.int .i64 e.op, .int .i64 e.n, .int .i64 e.v.k, .int .i64 e.v.n, .string e.v.s, .slice a e.args.length c] 74
def Six (w : World) (b : Nat) (e : Ex) (a : Option Addr) (c : Nat) : Prop := w.cell? ⟨b, 0, none⟩ = some (.int .i64 e.op) ∧ w.cell? ⟨b, 1, none⟩ = some (.int .i64 e.n) ∧ w.cell? ⟨b, 2, none⟩ = some (.int .i64 e.v.k) ∧ w.cell? ⟨b, 3, none⟩ = some (.int .i64 e.v.n) ∧ w.cell? ⟨b, 4, none⟩ = some (.string e.v.s) ∧ w.cell? ⟨b, 5, none⟩ = some (.slice a e.args.length c)
theorem Six.later {w w' : World} {b : Nat} {e : Ex} {a : Option Addr} {c : Nat} (h : Six w b e a c) (hb : Below w.heap.size w w') : Six w' b e a c :=
  ⟨clater h.1 hb, clater h.2.1 hb, clater h.2.2.1 hb, clater h.2.2.2.1 hb, clater h.2.2.2.2.1 hb, clater h.2.2.2.2.2 hb⟩
theorem Six.new (w : World) (e : Ex) (a : Option Addr) (c : Nat) : Six (w.alloc (e.box a c)) w.heap.size e a c := ⟨by simp [go_sem], by simp [go_sem], by simp [go_sem], by simp [go_sem], by simp [go_sem], by simp [go_sem]⟩
/-- How many parts an operator has. -/
def arI (op : Int) : Int := if op == 1 then 0 else if op == 2 then 0 else if decide (3 ≤ op) && decide (op ≤ 6) then 1 else if decide (7 ≤ op) && decide (op ≤ 20) then 2 else if op == 21 then 3 else -1
def soundE (e : Ex) : Bool := ((e.args.length : Int) == arI e.op) && (if e.op == 1 then decide (0 ≤ e.n) else if e.op == 2 then decide ((cleanV e.v).s.size ≤ 1000) else true)
end Go.Proofs.YtcpndojkfngioaaGreat
set_option linter.unusedSimpArgs false
set_option linter.unusedVariables false
namespace Go.Proofs.YtcpndojkfngioaaGreat
open Go.RowKit Go.Sort

set_option maxHeartbeats 400000 in
theorem arity_any (op : Int) (w : World) : Calls Tryz.prog 122 #[.int .i64 op] w fun e w' => e = .returned (.int .i64 (arI op)) ∧ w' = w := by
  by_cases h1 : op = 1
  · subst h1
    go_enter Tryz.func122, Tryz.ntmps122
    go_wp2
    go_ret
    exact ⟨rfl, rfl⟩
  by_cases h2 : op = 2
  · subst h2
    go_enter Tryz.func122, Tryz.ntmps122
    go_wp2
    go_ret
    exact ⟨rfl, rfl⟩
  have e1 : (op == 1) = false := by simpa using h1
  have e2 : (op == 2) = false := by simpa using h2
  by_cases h3 : 3 ≤ op ∧ op ≤ 6
  · obtain ⟨h3, h4⟩ := h3
    have e : arI op = 1 := by simp [arI, e1, e2, h3, h4]
    rw [e]
    clear h1 h2 e
    go_enter Tryz.func122, Tryz.ntmps122
    go_wp2
    go_ret
    exact ⟨rfl, rfl⟩
  by_cases h7 : 7 ≤ op ∧ op ≤ 20
  · obtain ⟨h5, h6⟩ := h7
    have e : arI op = 2 := by
      have : ¬ op ≤ 6 := by omega
      simp [arI, e1, e2, h5, h6, this]
    rw [e]
    have h3' : 3 ≤ op := by omega
    have h4' : ¬ op ≤ 6 := by omega
    clear h1 h2 e h3
    go_enter Tryz.func122, Tryz.ntmps122
    go_wp2
    go_ret
    exact ⟨rfl, rfl⟩
  by_cases h21 : op = 21
  · subst h21
    go_enter Tryz.func122, Tryz.ntmps122
    go_wp2
    go_ret
    exact ⟨rfl, rfl⟩
  have e21 : (op == 21) = false := by simpa using h21
  have e : arI op = -1 := by
    unfold arI
    rw [e1, e2, e21]
    have g1 : (decide (3 ≤ op) && decide (op ≤ 6)) = false := by simp; omega
    have g2 : (decide (7 ≤ op) && decide (op ≤ 20)) = false := by simp; omega
    rw [g1, g2]; rfl
  rw [e]
  have hc : (¬ 3 ≤ op) ∨ (3 ≤ op ∧ ¬ op ≤ 6 ∧ 7 ≤ op ∧ ¬ op ≤ 20) := by omega
  clear h1 h2 h21 e h3 h7
  rcases hc with h3 | ⟨h3, h4, h5, h6⟩
  · have h5 : ¬ 7 ≤ op := by omega
    go_enter Tryz.func122, Tryz.ntmps122
    go_wp2
    go_ret
    exact ⟨rfl, rfl⟩
  · go_enter Tryz.func122, Tryz.ntmps122
    go_wp2
    go_ret
    exact ⟨rfl, rfl⟩
theorem field2 (k n : Int) (s : ByteArray) (W : World) : (Instr.field 65 (.agg #[.int .i64 k, .int .i64 n, .string s]) 2).run Tryz.prog W = .ok (.string s) W := by kernel_rfl
theorem field0 (k n : Int) (s : ByteArray) (W : World) : (Instr.field 65 (.agg #[.int .i64 k, .int .i64 n, .string s]) 0).run Tryz.prog W = .ok (.int .i64 k) W := by kernel_rfl
theorem arity_q (op : Int) (w : World) : Calls Tryz.prog 122 #[.int .i64 op] w fun e w' => e = .returned (.int .i64 (arI op)) ∧ ∃ n, w' = w.drewN n :=
  (arity_any op w).mono fun e w' ⟨h1, h2⟩ => ⟨h1, 0, by rw [h2]; rfl⟩
set_option maxHeartbeats 1000000 in
set_option maxRecDepth 100000 in
theorem sound_any (e : Ex) (a : Option Addr) (c : Nat) (w : World) (hl : e.args.length ≤ 140737488355328) (hv : e.v.s.size ≤ 140737488355328) :
    Calls Tryz.prog 101 #[e.val a c] w fun e' w' => e' = .returned (.bool (soundE e)) ∧ Below w.heap.size w w' := by
  rw [Ex.val_open]
  have HA := hide (arity_q e.op)
  obtain ⟨cv, hcv⟩ : ∃ cv, cv = cleanV e.v := ⟨_, rfl⟩
  have HC : Hid (∀ W, Calls Tryz.prog 69 #[e.v.v] W fun e' w' => e' = .returned cv.v ∧ Below W.heap.size W w') := fun W => by rw [hcv]; exact clean_any e.v W
  have hse : soundE e = (((e.args.length : Int) == arI e.op) && (if e.op == 1 then decide (0 ≤ e.n) else if e.op == 2 then decide (cv.s.size ≤ 1000) else true)) := by rw [hcv]; rfl
  rw [hse]
  clear hse
  obtain ⟨ar, har⟩ : ∃ ar, ar = arI e.op := ⟨_, rfl⟩
  have HAR : Hid (∀ W, Calls Tryz.prog 122 #[.int .i64 e.op] W fun e' w' => e' = .returned (.int .i64 ar) ∧ w' = W) := fun W => by rw [har]; exact arity_any e.op W
  rw [← har]
  obtain ⟨R, hR⟩ : ∃ R, R = (((e.args.length : Int) == ar) && (if e.op == 1 then decide (0 ≤ e.n) else if e.op == 2 then decide (cv.s.size ≤ 1000) else true)) := ⟨_, rfl⟩
  rw [← hR]
  have HR := hide hR
  clear hR
  have H6 : Hid (Six (w.alloc (.cells #[.int .i64 e.op, .int .i64 e.n, .int .i64 e.v.k, .int .i64 e.v.n, .string e.v.s, .slice a e.args.length c] 74)) w.heap.size e a c) := Six.new w e a c
  have HB := hide (below_alloc (Below.refl _ w) (.cells #[.int .i64 e.op, .int .i64 e.n, .int .i64 e.v.k, .int .i64 e.v.n, .string e.v.s, .slice a e.args.length c] 74))
  clear HA har hcv
  go_enter Tryz.func101, Tryz.ntmps101
  go_upto_region 1 with fail
  obtain ⟨wa, hwa⟩ : ∃ wa, wa = w.alloc (.cells #[.int .i64 e.op, .int .i64 e.n, .int .i64 e.v.k, .int .i64 e.v.n, .string e.v.s, .slice a e.args.length c] 74) := ⟨_, rfl⟩
  rw [← hwa] at H6 HB ⊢
  clear hwa
  obtain ⟨c0, c1, c2, c3, c4, c5⟩ := unhide H6
  obtain ⟨bb, hbb⟩ : ∃ bb, ((e.args.length : Int) != ar) = bb := ⟨_, rfl⟩
  go_cut [9] (fun s9 wx => s9 = .bool bb ∧ Below wa.heap.size wa wx)
  case first =>
    go_region_with (go_at_call 122; refine (unhide HAR _).mono ?_; rintro e' wn ⟨rfl, rfl⟩)
    all_goals
      go_wp2
      go_meet
      exact ⟨rfl, (Below.refl _ _).drew⟩
  case rest =>
    obtain ⟨rfl, hb1⟩ := hcut
    rename World => w1
    obtain ⟨c0, c1, c2, c3, c4, c5⟩ := (unhide H6).later hb1
    have HB1 := hide (below_step (unhide HB) hb1)
    have hee : ((e.args.length : Int) == ar) = !bb := by rw [← hbb]; simp [bne]
    rw [hee] at HR
    clear hee hbb
    cases bb with
    | true =>
      go_wp2
      go_ret
      exact ⟨by rw [unhide HR]; rfl, unhide HB1⟩
    | false =>
      rcases Bool.eq_false_or_eq_true (e.op == 1) with h1 | h1
      · rw [h1] at HR
        go_wp2
        go_ret
        exact ⟨by rw [unhide HR]; simp, unhide HB1⟩
      · rw [h1] at HR
        rcases Bool.eq_false_or_eq_true (e.op == 2) with h2 | h2
        · rw [h2] at HR
          rw [Val.open_] at HC
          have hf2 := field2
          go_wp2_with (go_at_call 69; refine (unhide HC _).mono ?_; rintro e' w2 ⟨rfl, hb2⟩; rw [Val.open_])
          go_ret
          exact ⟨by rw [unhide HR]; simp; omega, below_step (unhide HB1) hb2⟩
        · rw [h2] at HR
          go_wp2
          go_ret
          exact ⟨by rw [unhide HR]; simp, unhide HB1⟩
end Go.Proofs.YtcpndojkfngioaaGreat
set_option linter.unusedSimpArgs false
set_option linter.unusedVariables false
namespace Go.Proofs.YtcpndojkfngioaaGreat
open Go.RowKit Go.Sort

mutual
/-- How large an expression is, by a budget. -/
def measE (p : Ex → Bool) : Ex → Int → Int → Int × Int × Bool
  | .mk op n v l, N, H => if decide (N < 1) || decide (H < 1) || !p (.mk op n v l) then (0, 0, false) else match measL p l N H 1 0 with
    | some (c, h) => (c, h + 1, true)
    | none => (0, 0, false)
def measL (p : Ex → Bool) : List Ex → Int → Int → Int → Int → Option (Int × Int)
  | [], _, _, c, h => some (c, h)
  | e :: l, N, H, c, h => if (measE p e (N - c) (H - 1)).2.2 then measL p l N H (c + (measE p e (N - c) (H - 1)).1) (max h (measE p e (N - c) (H - 1)).2.1) else none
end
mutual
theorem meas_le (p : Ex → Bool) : ∀ (e : Ex) (N H : Int) {c h : Int}, measE p e N H = (c, h, true) → 1 ≤ c ∧ c ≤ N ∧ 1 ≤ h ∧ h ≤ H
  | .mk op n v l, N, H, c, h, he => by
    rw [measE] at he
    split at he
    · injection he with _ he; injection he with _ he; cases he
    · rename_i hc
      simp only [Bool.or_eq_true, decide_eq_true_eq, not_or] at hc
      cases hm : measL p l N H 1 0 with
      | none => rw [hm] at he; simp only at he; injection he with _ he; injection he with _ he; cases he
      | some q =>
        rw [hm] at he
        simp only at he
        injection he with e1 e2
        injection e2 with e2 _
        have := measL_le p l N H 1 0 (c' := q.1) (h' := q.2) (by omega) (by omega) (by omega) (by omega) hm
        omega
theorem measL_le (p : Ex → Bool) : ∀ (l : List Ex) (N H c h : Int) {c' h' : Int}, 1 ≤ c → c ≤ N → 0 ≤ h → h ≤ H - 1 → measL p l N H c h = some (c', h') → c ≤ c' ∧ c' ≤ N ∧ h ≤ h' ∧ h' ≤ H - 1
  | [], N, H, c, h, c', h', h1, h2, h3, h4, he => by
    rw [measL] at he
    injection he with he; injection he with e1 e2
    omega
  | e :: l, N, H, c, h, c', h', h1, h2, h3, h4, he => by
    rw [measL] at he
    split at he
    · rename_i hok
      obtain ⟨c2, h2', ok, hm⟩ : ∃ c2 h2 ok, measE p e (N - c) (H - 1) = (c2, h2, ok) := ⟨_, _, _, rfl⟩
      rw [hm] at he hok
      simp only at he hok
      subst hok
      have g := meas_le p e (N - c) (H - 1) hm
      have := measL_le p l N H (c + c2) (max h h2') (by omega) (by omega) (by omega) (by omega) he
      omega
    · cases he
end
theorem measE_eq (p : Ex → Bool) (e : Ex) (N H : Int) : measE p e N H = if decide (N < 1) || decide (H < 1) || !p e then (0, 0, false) else match measL p e.args N H 1 0 with
    | some (c, h) => (c, h + 1, true)
    | none => (0, 0, false) := by cases e; rw [measE]; rfl
/-- An expression that is built. -/
def builtE (e : Ex) : Bool := (measE soundE e 400 40).2.2
end Go.Proofs.YtcpndojkfngioaaGreat
set_option linter.unusedSimpArgs false
set_option linter.unusedVariables false
namespace Go.Proofs.YtcpndojkfngioaaGreat
open Go.RowKit Go.Sort

mutual
/-- Nothing in it is too great for the machine. -/
def Ex.fin : Ex → Prop
  | .mk op n v l => (l.length ≤ 140737488355328 ∧ v.s.size ≤ 140737488355328 ∧ In64 v.n ∧ In64 n) ∧ Ex.fins l
def Ex.fins : List Ex → Prop
  | [] => True
  | e :: l => e.fin ∧ Ex.fins l
end
theorem Ex.fin_open {e : Ex} (h : e.fin) : (e.args.length ≤ 140737488355328 ∧ e.v.s.size ≤ 140737488355328 ∧ In64 e.v.n ∧ In64 e.n) ∧ Ex.fins e.args := by
  cases e with
  | mk op n v l => rw [Ex.fin] at h; exact h
theorem Ex.fins_mem : ∀ {l : List Ex} {x : Ex}, Ex.fins l → x ∈ l → x.fin
  | [], _, _, h => by cases h
  | e :: l, x, hf, h => by
    rw [Ex.fins] at hf
    rcases List.mem_cons.1 h with rfl | h
    · exact hf.1
    · exact Ex.fins_mem hf.2 h
theorem Ex.fin_arg {e x : Ex} {i : Nat} (h : e.fin) (hx : e.args[i]? = some x) : x.fin := Ex.fins_mem (Ex.fin_open h).2 (List.mem_of_getElem? hx)
theorem below_one {w w' : World} {o : Obj} (h : Below (w.alloc o).heap.size (w.alloc o) w') : Below w.heap.size w w' := below_step (below_alloc (Below.refl _ _) o) h
theorem max_if (x y : Int) : (if x < y then y else x) = max x y := by
  by_cases h : x < y
  · rw [if_pos h]; omega
  · rw [if_neg h]; omega
abbrev M3 (m : Int × Int × Bool) : Ending := .returned (.tuple #[.int .i64 m.1, .int .i64 m.2.1, .bool m.2.2])
set_option maxHeartbeats 2000000 in
set_option maxRecDepth 100000 in
theorem measured_step (e : Ex) (hf : e.fin) (N H : Int) (a : Option Addr) (c : Nat) (w : World) (hN0 : 0 ≤ N) (hN : N ≤ 40000000) (hH0 : 0 ≤ H) (hH : H ≤ 200000) (ha : Ex.all w a e.args)
    (IH : ∀ (i : Nat) (x : Ex), e.args[i]? = some x → ∀ (N' H' : Int) (a' : Option Addr) (c' : Nat) (W : World), 0 ≤ N' → N' ≤ 40000000 → 0 ≤ H' → H' ≤ 200000 → Ex.all W a' x.args → Calls Tryz.prog 100 #[x.val a' c', .int .i64 N', .int .i64 H', .func (.func 101) #[] #[]] W fun r w' => r = M3 (measE soundE x N' H') ∧ Below W.heap.size W w') :
    Calls Tryz.prog 100 #[e.val a c, .int .i64 N, .int .i64 H, .func (.func 101) #[] #[]] w fun r w' => r = M3 (measE soundE e N H) ∧ Below w.heap.size w w' := by
  obtain ⟨⟨hl, hv, _, _⟩, _⟩ := Ex.fin_open hf
  have HS := hide (fun W => sound_any e a c W hl hv)
  obtain ⟨R, hR⟩ : ∃ R, R = measE soundE e N H := ⟨_, rfl⟩
  have HR : Hid (R = if decide (N < 1) || decide (H < 1) || !soundE e then (0, 0, false) else match measL soundE e.args N H 1 0 with
    | some (c, h) => (c, h + 1, true)
    | none => (0, 0, false)) := by rw [hR]; exact measE_eq soundE e N H
  rw [← hR]
  have H6 : Hid (Six (w.alloc (.cells #[.int .i64 e.op, .int .i64 e.n, .int .i64 e.v.k, .int .i64 e.v.n, .string e.v.s, .slice a e.args.length c] 74)) w.heap.size e a c) := Six.new w e a c
  have HB := hide (below_alloc (Below.refl _ w) (.cells #[.int .i64 e.op, .int .i64 e.n, .int .i64 e.v.k, .int .i64 e.v.n, .string e.v.s, .slice a e.args.length c] 74))
  have HIH := hide IH
  have HAL := hide ha
  rw [Ex.val_open] at HS ⊢
  clear hR ha IH
  by_cases h1 : N < 1
  · go_enter Tryz.func100, Tryz.ntmps100
    go_wp2
    refine bodyPost_ret (v := .tuple #[.int .i64 0, .int .i64 0, .bool false]) (by simp [results, Tryz.results100, go_sem]) rfl ⟨by rw [unhide HR]; simp [h1], unhide HB⟩
  by_cases h2 : H < 1
  · go_enter Tryz.func100, Tryz.ntmps100
    go_wp2
    refine bodyPost_ret (v := .tuple #[.int .i64 0, .int .i64 0, .bool false]) (by simp [results, Tryz.results100, go_sem]) rfl ⟨by rw [unhide HR]; simp [h2], unhide HB⟩
  obtain ⟨sb, hsb⟩ : ∃ sb, sb = soundE e := ⟨_, rfl⟩
  rw [← hsb] at HS HR
  have n1 : decide (N < 1) = false := by simpa using h1
  have n2 : decide (H < 1) = false := by simpa using h2
  rw [n1, n2] at HR
  cases sb with
  | false =>
    clear hsb n1 n2
    go_enter Tryz.func100, Tryz.ntmps100
    go_wp2_with (go_at_call 101; refine (unhide HS _).mono ?_; rintro e' w1 ⟨rfl, hb1⟩)
    refine bodyPost_ret (v := .tuple #[.int .i64 0, .int .i64 0, .bool false]) (by simp [results, Tryz.results100, go_sem]) rfl ⟨by rw [unhide HR]; rfl, below_one hb1⟩
  | true =>
    clear hsb n1 n2
    have HR2 : Hid (R = match measL soundE e.args N H 1 0 with
      | some (c, h) => (c, h + 1, true)
      | none => (0, 0, false)) := by have := unhide HR; show _ = _; simpa using this
    clear HR
    go_enter Tryz.func100, Tryz.ntmps100
    go_wp2_with (go_at_call 101; refine (unhide HS _).mono ?_; rintro e' w1 ⟨rfl, hb1⟩; obtain ⟨c0, c1, c2, c3, c4, c5⟩ := (unhide H6).later hb1)
    have HB1 := hide (below_step (unhide HB) hb1)
    have HAL1 := hide (Ex.all_later _ (unhide HAL) (unhide HB1))
    clear hb1 HS
    go_loopw [11, 12, 33] (fun s11 s12 i wr => ∃ (k : Nat) (cc hh : Int), k ≤ e.args.length ∧ i = .int .i64 (k : Int) ∧ s11 = .int .i64 cc ∧ s12 = .int .i64 hh ∧ 1 ≤ cc ∧ cc ≤ N ∧ 0 ≤ hh ∧ hh ≤ H - 1 ∧ Hid (measL soundE e.args N H 1 0 = measL soundE (e.args.drop k) N H cc hh) ∧ Below w1.heap.size w1 wr) (fun _ _ i _ => e.args.length - (intOf i).toNat)
    case atStart => exact ⟨0, 1, 0, Nat.zero_le _, rfl, rfl, rfl, by omega, by omega, by omega, by omega, rfl, Below.refl _ _⟩
    case round =>
      obtain ⟨k, cc, hh, hk, rfl, rfl, rfl, g1, g2, g3, g4, HM, hb⟩ := hrel
      by_cases hlt : k < e.args.length
      · have h9 : (k : Int) < (e.args.length : Int) := by omega
        obtain ⟨x, hx⟩ : ∃ x, e.args[k]? = some x := ⟨_, List.getElem?_eq_getElem hlt⟩
        have hd : e.args.drop k = x :: e.args.drop (k + 1) := by
          obtain ⟨q1, q2⟩ := List.getElem?_eq_some_iff.1 hx
          rw [List.drop_eq_getElem_cons q1, q2]
        obtain ⟨vb, vo, ea, hat⟩ := Ex.all_get (Ex.all_later _ (unhide HAL1) hb) hx
        obtain ⟨a', c', ⟨d0, d1, d2, d3, d4, d5⟩, hal⟩ := Ex.at_open hat
        have HC := hide (unhide HIH k x hx (N - cc) (H - 1) a' c' (wr.alloc (.cells #[.int .i64 x.op, .int .i64 x.n, .int .i64 x.v.k, .int .i64 x.v.n, .string x.v.s, .slice a' x.args.length c'] 74)) (by omega) (by omega) (by omega) (by omega) (Ex.all_later _ hal (below_alloc (Below.refl _ _) _)))
        rw [Ex.val_open] at HC
        rw [hd, measL] at HM
        obtain ⟨q, hq⟩ : ∃ q, measE soundE x (N - cc) (H - 1) = q := ⟨_, rfl⟩
        rw [hq] at HC HM
        have HQ := hide hq
        obtain ⟨c2', h2', ok⟩ := q
        have HB2 := hide (below_alloc hb (.cells #[.int .i64 x.op, .int .i64 x.n, .int .i64 x.v.k, .int .i64 x.v.n, .string x.v.s, .slice a' x.args.length c'] 74))
        subst ea
        clear hx hd hat hal hq hb
        cases ok with
        | false =>
          have HE : Hid (R = (0, 0, false)) := by have h1 := unhide HM; have h2 := unhide HR2; rw [h1] at h2; show _ = _; simpa using h2
          clear HM HQ
          go_wp2_with (go_at_call 100; refine (unhide HC).mono ?_; rintro r w3 ⟨rfl, hb3⟩)
          refine bodyPost_ret (v := .tuple #[.int .i64 0, .int .i64 0, .bool false]) (by simp [results, Tryz.results100, go_sem]) rfl ⟨by rw [unhide HE], below_step (unhide HB1) (below_step (unhide HB2) hb3)⟩
        | true =>
          obtain ⟨m1, m2, m3, m4⟩ := meas_le soundE x (N - cc) (H - 1) (unhide HQ)
          have HM2 : Hid (measL soundE e.args N H 1 0 = measL soundE (e.args.drop (k + 1)) N H (cc + c2') (max hh h2')) := by have := unhide HM; show _ = _; simpa using this
          clear HM HQ
          go_wp2_with (go_at_call 100; refine (unhide HC).mono ?_; rintro r w3 ⟨rfl, hb3⟩)
          refine ⟨⟨k + 1, cc + c2', max hh h2', by omega, by go_num, rfl, by rw [max_if], by omega, by omega, by omega, by omega, HM2, below_step (unhide HB2) hb3⟩, by simp [intOf]; omega⟩
      · have h9 : ¬ (k : Int) < (e.args.length : Int) := by omega
        have HE : Hid (R = (cc, hh + 1, true)) := by
          have h1 := unhide HM
          have h2 := unhide HR2
          rw [List.drop_eq_nil_of_le (by omega), measL] at h1
          rw [h1] at h2
          exact h2
        have HBE := hide (below_step (unhide HB1) hb)
        clear HM HR2 hb
        go_wp2
        refine bodyPost_ret (v := .tuple #[.int .i64 cc, .int .i64 (hh + 1), .bool true]) (by simp [results, Tryz.results100, go_sem]) rfl ⟨by rw [unhide HE], unhide HBE⟩
theorem measured_all : ∀ (k : Nat) (e : Ex), e.size ≤ k → e.fin → ∀ (N H : Int) (a : Option Addr) (c : Nat) (w : World), 0 ≤ N → N ≤ 40000000 → 0 ≤ H → H ≤ 200000 → Ex.all w a e.args →
    Calls Tryz.prog 100 #[e.val a c, .int .i64 N, .int .i64 H, .func (.func 101) #[] #[]] w fun r w' => r = M3 (measE soundE e N H) ∧ Below w.heap.size w w'
  | 0, e, hs, _, _, _, _, _, _, _, _, _, _, _ => by rw [Ex.size_mk] at hs; omega
  | k + 1, e, hs, hf, N, H, a, c, w, h1, h2, h3, h4, ha => measured_step e hf N H a c w h1 h2 h3 h4 ha fun i x hx N' H' a' c' W g1 g2 g3 g4 hW =>
    measured_all k x (by have := Ex.size_arg hx; omega) (Ex.fin_arg hf hx) N' H' a' c' W g1 g2 g3 g4 hW
set_option maxHeartbeats 400000 in
theorem built_any (e : Ex) (hf : e.fin) (a : Option Addr) (c : Nat) (w : World) (ha : Ex.all w a e.args) :
    Calls Tryz.prog 110 #[e.val a c] w fun r w' => r = .returned (.bool (builtE e)) ∧ Below w.heap.size w w' := by
  have HM := hide (fun o => measured_all e.size e (Nat.le_refl _) hf 400 40 a c (w.alloc o) (by omega) (by omega) (by omega) (by omega) (Ex.all_later _ ha (below_alloc (Below.refl _ _) o)))
  obtain ⟨q, hq⟩ : ∃ q, measE soundE e 400 40 = q := ⟨_, rfl⟩
  have hb : builtE e = q.2.2 := by rw [← hq]; rfl
  rw [hb]
  rw [hq] at HM
  obtain ⟨c2, h2, ok⟩ := q
  rw [Ex.val_open] at HM ⊢
  clear hq hb ha
  go_enter Tryz.func110, Tryz.ntmps110
  go_wp2_with (go_at_call 100; refine (unhide HM _).mono ?_; rintro r w1 ⟨rfl, hb1⟩)
  go_ret
  exact ⟨rfl, below_one hb1⟩
end Go.Proofs.YtcpndojkfngioaaGreat
set_option linter.unusedSimpArgs false
set_option linter.unusedVariables false
namespace Go.Proofs.YtcpndojkfngioaaGreat
open Go.RowKit Go.Sort

/-- A list of numbers, to be read. -/
def IntsAt (w : World) (a : Option Addr) (l : List Int) : Prop := l = [] ∨ ∃ b off, a = some ⟨b, off, none⟩ ∧ ∀ i x, l[i]? = some x → w.cell? ⟨b, off + i, none⟩ = some (.int .i64 x)
theorem IntsAt.later {w w' : World} {a : Option Addr} {l : List Int} (h : IntsAt w a l) (hb : Below w.heap.size w w') : IntsAt w' a l := by
  rcases h with h | ⟨b, off, ha, h⟩
  · exact .inl h
  · exact .inr ⟨b, off, ha, fun i x hx => clater (h i x hx) hb⟩
theorem IntsAt.get {w : World} {a : Option Addr} {l : List Int} {k : Nat} {x : Int} (h : IntsAt w a l) (hx : l[k]? = some x) : ∃ b off, a = some ⟨b, off, none⟩ ∧ w.cell? ⟨b, off + k, none⟩ = some (.int .i64 x) := by
  rcases h with h | ⟨b, off, ha, h⟩
  · rw [h] at hx; cases hx
  · exact ⟨b, off, ha, h k x hx⟩
theorem any_at {α : Type} {p : α → Bool} {l : List α} {k : Nat} {x : α} (h : l[k]? = some x) (hp : p x = true) : l.any p = true := List.any_eq_true.2 ⟨x, List.mem_of_getElem? h, hp⟩
theorem any_no {α : Type} {p : α → Bool} {l : List α} (h : ∀ i x, i < l.length → l[i]? = some x → p x = false) : l.any p = false := by
  rw [List.any_eq_false]
  intro y hy
  obtain ⟨i, hi⟩ := List.mem_iff_getElem?.1 hy
  rw [h i y (List.getElem?_eq_some_iff.1 hi).1 hi]; simp
theorem no_step {α : Type} {p : α → Bool} {l : List α} {k : Nat} {x : α} (h : ∀ i x, i < k → l[i]? = some x → p x = false) (hx : l[k]? = some x) (hp : p x = false) : ∀ i x, i < k + 1 → l[i]? = some x → p x = false := by
  intro i z hi hz
  by_cases e : i = k
  · subst e; rw [hx] at hz; injection hz with hz; rw [← hz]; exact hp
  · exact h i z (by omega) hz
/-- What a test of expressions answers. -/
def TestE (W : World) (F : Value) (p : Ex → Bool) : Prop := ∃ n k, F = .func (.func n) #[] k ∧ (∀ args w, (callFunc n args).run Tryz.prog w = .ok (.enter n args) w) ∧ ∀ (x : Ex) (a' : Option Addr) (c' : Nat) (W' : World), x.fin → Below W.heap.size W W' → Ex.all W' a' x.args → Calls Tryz.prog n (#[x.val a' c'] ++ k) W' fun r w' => r = .returned (.bool (p x)) ∧ Below W'.heap.size W' w'
/-- Where the first one is for which p holds; -1, if there is none. -/
def FoundE (p : Ex → Bool) (l : List Ex) (r : Int) : Prop := (∃ (k : Nat) (x : Ex), r = k ∧ l[k]? = some x ∧ p x = true ∧ ∀ (i : Nat) (y : Ex), i < k → l[i]? = some y → p y = false) ∨ (r = -1 ∧ ∀ (i : Nat) (y : Ex), l[i]? = some y → p y = false)
set_option maxHeartbeats 400000 in
set_option maxRecDepth 100000 in
theorem indexE_any (F : Value) (p : Ex → Bool) (a : Option Addr) (c : Nat) (l : List Ex) (w : World) (hl : l.length ≤ 140737488355328) (hf : Ex.fins l) (ha : Ex.all w a l) (hF : TestE w F p) :
    Calls Tryz.prog 74 #[.slice a l.length c, F] w fun e w' => ∃ r, e = .returned (.int .i64 r) ∧ FoundE p l r ∧ Below w.heap.size w w' := by
  have HA := hide ha
  obtain ⟨nf, kf, rfl, ent, HP⟩ := hF
  have HC := hide HP
  clear ha HP
  go_enter Tryz.func74, Tryz.ntmps74
  go_wp2_with fail
  go_loopw [8] (fun i wr => ∃ k : Nat, k ≤ l.length ∧ i = .int .i64 (k : Int) ∧ Hid (∀ i x, i < k → l[i]? = some x → p x = false) ∧ Below w.heap.size w wr) (fun i _ => l.length - (intOf i).toNat)
  case atStart => exact ⟨0, Nat.zero_le _, rfl, fun i x hi => absurd hi (by omega), Below.refl _ _⟩
  case round =>
    obtain ⟨k, hk, rfl, HN, hb⟩ := hrel
    by_cases hlt : k < l.length
    · have h9 : (k : Int) < (l.length : Int) := by omega
      obtain ⟨x, hx⟩ : ∃ x, l[k]? = some x := ⟨_, List.getElem?_eq_getElem hlt⟩
      obtain ⟨vb, vo, ea, hat⟩ := Ex.all_get (Ex.all_later _ (unhide HA) hb) hx
      obtain ⟨a', c', ⟨d0, d1, d2, d3, d4, d5⟩, hal⟩ := Ex.at_open hat
      have HX := hide (unhide HC x a' c' wr (Ex.fins_mem hf (List.mem_of_getElem? hx)) hb hal)
      rw [Ex.val_open] at HX
      have HB := hide hb
      subst ea
      clear hat hal hb
      cases hp : p x
      · have HE := hide (no_step (unhide HN) hx hp)
        rw [hp] at HX
        clear hx HN hp
        go_wp2_with (refine (unhide HX).mono ?_; rintro r w1 ⟨rfl, hb1⟩)
        exact ⟨⟨k + 1, by omega, by go_num, unhide HE, below_step (unhide HB) hb1⟩, by simp [intOf]; omega⟩
      · have HE : Hid (FoundE p l (k : Int)) := Or.inl ⟨k, x, rfl, hx, hp, unhide HN⟩
        rw [hp] at HX
        clear hx HN hp
        go_wp2_with (refine (unhide HX).mono ?_; rintro r w1 ⟨rfl, hb1⟩)
        go_ret
        exact ⟨_, rfl, unhide HE, below_step (unhide HB) hb1⟩
    · have h9 : ¬ (k : Int) < (l.length : Int) := by omega
      have HE : Hid (FoundE p l (-1)) := Or.inr ⟨rfl, fun i x hx => unhide HN i x (by have := (List.getElem?_eq_some_iff.1 hx).1; omega) hx⟩
      have HB := hide hb
      clear HN hb
      go_wp2
      go_ret
      exact ⟨_, rfl, unhide HE, unhide HB⟩
theorem found_any {p : Ex → Bool} {l : List Ex} {r : Int} (h : FoundE p l r) : decide (0 ≤ r) = l.any p := by
  rcases h with ⟨k, x, rfl, hx, hp, _⟩ | ⟨rfl, h⟩
  · rw [any_at hx hp]; simp
  · rw [any_no fun i x _ hx => h i x hx]; rfl
theorem containsE_any (F : Value) (p : Ex → Bool) (a : Option Addr) (c : Nat) (l : List Ex) (w : World) (hl : l.length ≤ 140737488355328) (hf : Ex.fins l) (ha : Ex.all w a l) (hF : TestE w F p) :
    Calls Tryz.prog 44 #[.slice a l.length c, F] w fun e w' => e = .returned (.bool (l.any p)) ∧ Below w.heap.size w w' := by
  have HI : Hid (Calls Tryz.prog 74 #[.slice a l.length c, F] w fun e w' => ∃ r, e = .returned (.int .i64 r) ∧ decide (0 ≤ r) = l.any p ∧ Below w.heap.size w w') := (indexE_any F p a c l w hl hf ha hF).mono fun e w' ⟨r, h1, h2, h3⟩ => ⟨r, h1, found_any h2, h3⟩
  clear ha
  generalize l.any p = r at *
  go_enter Tryz.func44, Tryz.ntmps44
  go_wp2_with (go_at_call 74; refine (unhide HI).mono ?_; rintro e w1 ⟨q, rfl, hq, hb⟩)
  go_ret
  exact ⟨rfl, hb⟩
end Go.Proofs.YtcpndojkfngioaaGreat
set_option linter.unusedSimpArgs false
set_option linter.unusedVariables false
namespace Go.Proofs.YtcpndojkfngioaaGreat
open Go.RowKit Go.Sort

mutual
/-- Each node is one that may be. -/
def goodE : Ex → Prop
  | .mk op n v l => soundE (.mk op n v l) = true ∧ goodL l
def goodL : List Ex → Prop
  | [] => True
  | e :: l => goodE e ∧ goodL l
end
theorem good_open {e : Ex} (h : goodE e) : soundE e = true ∧ goodL e.args := by
  cases e with
  | mk op n v l => rw [goodE] at h; exact h
theorem goodL_mem : ∀ {l : List Ex} {x : Ex}, goodL l → x ∈ l → goodE x
  | [], _, _, h => by cases h
  | e :: l, x, hf, h => by
    rw [goodL] at hf
    rcases List.mem_cons.1 h with rfl | h
    · exact hf.1
    · exact goodL_mem hf.2 h
theorem good_arg {e x : Ex} {i : Nat} (h : goodE e) (hx : e.args[i]? = some x) : goodE x := goodL_mem (good_open h).2 (List.mem_of_getElem? hx)
mutual
theorem meas_good : ∀ (e : Ex) (N H : Int), (measE soundE e N H).2.2 = true → goodE e
  | .mk op n v l, N, H, he => by
    rw [measE] at he
    split at he
    · cases he
    · rename_i hc
      simp only [Bool.or_eq_true, Bool.not_eq_true', not_or] at hc
      cases hm : measL soundE l N H 1 0 with
      | none => rw [hm] at he; cases he
      | some q =>
        rw [goodE]
        exact ⟨by simpa using hc.2, measL_good l N H 1 0 (by rw [hm]; rfl)⟩
theorem measL_good : ∀ (l : List Ex) (N H c h : Int), (measL soundE l N H c h).isSome = true → goodL l
  | [], N, H, c, h, he => by rw [goodL]; trivial
  | e :: l, N, H, c, h, he => by
    rw [measL] at he
    split at he
    · rename_i hok
      rw [goodL]
      exact ⟨meas_good e _ _ hok, measL_good l _ _ _ _ he⟩
    · cases he
end
theorem built_good {e : Ex} (h : builtE e = true) : goodE e := meas_good e _ _ h
theorem sound_len {e : Ex} (h : soundE e = true) : (e.args.length : Int) = arI e.op := by
  unfold soundE at h
  simp only [Bool.and_eq_true, beq_iff_eq] at h
  exact h.1
theorem two_args {e : Ex} (h : goodE e) (ho : arI e.op = 2) : ∃ x y, e.args = [x, y] := by
  have hl := sound_len (good_open h).1
  rw [ho] at hl
  match he : e.args, hl with
  | [x, y], _ => exact ⟨x, y, rfl⟩
  | [], hl => simp at hl
  | [_], hl => simp at hl
  | _ :: _ :: _ :: _, hl => simp at hl; omega
end Go.Proofs.YtcpndojkfngioaaGreat
set_option linter.unusedSimpArgs false
set_option linter.unusedVariables false
namespace Go.Proofs.YtcpndojkfngioaaGreat
open Go.RowKit Go.Sort

def Box1 (w : World) (B : Nat) (v : Value) : Prop := w.cell? ⟨B, 0, none⟩ = some v
theorem Box1.later {w w' : World} {B : Nat} {v : Value} (h : Box1 w B v) (hb : Below w.heap.size w w') : Box1 w' B v := clater h hb

/-- A row of values, to be read. -/
def RowAt (w : World) (a : Option Addr) (xs : List Val) : Prop :=
  xs = [] ∨ ∃ b off, a = some ⟨b, off, none⟩ ∧ ∀ i x, xs[i]? = some x → w.cell? ⟨b, off + i * 3, none⟩ = some (.int .i64 x.k) ∧ w.cell? ⟨b, off + i * 3 + 1, none⟩ = some (.int .i64 x.n) ∧ w.cell? ⟨b, off + i * 3 + 2, none⟩ = some (.string x.s)
theorem RowAt.later {w w' : World} {a : Option Addr} {xs : List Val} (h : RowAt w a xs) (hb : Below w.heap.size w w') : RowAt w' a xs := by
  rcases h with h | ⟨b, off, ha, h⟩
  · exact .inl h
  · exact .inr ⟨b, off, ha, fun i x hx => ⟨clater (h i x hx).1 hb, clater (h i x hx).2.1 hb, clater (h i x hx).2.2 hb⟩⟩
theorem RowAt.lo {w : World} {a : Option Addr} {xs : List Val} {k : Nat} {x : Val} (h : RowAt w a xs) (hx : xs[k]? = some x) : ∃ b off, a = some ⟨b, off, none⟩ ∧ w.cell? ⟨b, off + k * 3, none⟩ = some (.int .i64 x.k) ∧ w.cell? ⟨b, off + k * 3 + 1, none⟩ = some (.int .i64 x.n) ∧ w.cell? ⟨b, off + k * 3 + 2, none⟩ = some (.string x.s) := by
  rcases h with e | ⟨b, off, rfl, hc⟩
  · rw [e] at hx; cases hx
  · exact ⟨b, off, rfl, hc k x hx⟩
/-- A value that the machine holds. -/
def VOk (x : Val) : Prop := In64 x.n ∧ x.s.size ≤ 140737488355328
theorem vok_null : VOk .null := ⟨⟨by show -9223372036854775808 ≤ (0 : Int); decide, by show (0 : Int) ≤ 9223372036854775807; decide⟩, Nat.zero_le _⟩
theorem vok_num {n : Int} (h : In64 n) : VOk (.num n) := ⟨h, Nat.zero_le _⟩
theorem vok_clean {x : Val} (h : VOk x) : VOk (cleanV x) := by
  unfold cleanV
  split
  · exact vok_num h.1
  · split
    · exact ⟨⟨by show -9223372036854775808 ≤ (0 : Int); decide, by show (0 : Int) ≤ 9223372036854775807; decide⟩, h.2⟩
    · exact vok_null
def oneV (op : Int) (x : Val) : Val := if op == 3 then reckV 8 (.num 0) x else if op == 4 then notV x else if op == 5 then (if x.k == 0 then .num 1 else .num 0) else (if x.k == 2 then .num x.s.size else .null)
def twoV (op : Int) (x y : Val) : Val := if decide (op ≤ 11) then reckV op x y else if decide (op ≤ 17) then testV op x y else if op == 18 then catV x y else bothV op x y
def nodeV (op n : Int) (v : Val) (row : List Val) : List Val → Val
  | [] => if op == 2 then cleanV v else if decide ((row.length : Int) ≤ n) then .null else cleanV (row.getD n.toNat .null)
  | [x] => oneV op x
  | [x, y] => twoV op x y
  | x :: y :: z :: _ => if trueB x then y else z
mutual
/-- What an expression comes to. -/
def evalE (row : List Val) : Ex → Val
  | .mk op n v l => nodeV op n v row (evalL row l)
def evalL (row : List Val) : List Ex → List Val
  | [] => []
  | e :: l => evalE row e :: evalL row l
end
/-- A function of the program's own, in which a call goes on. -/
def Enters (n : Nat) : Prop := ∀ args w, (callFunc n args).run Tryz.prog w = .ok (.enter n args) w
def Fun1 (W : World) (F : Value) (g : Val → Val) : Prop := ∃ n k, F = .func (.func n) #[] k ∧ Enters n ∧ ∀ W' x, Below W.heap.size W W' → VOk x → Calls Tryz.prog n (#[x.v] ++ k) W' fun r w' => r = .returned (g x).v ∧ Below W'.heap.size W' w'
def Fun2 (W : World) (F : Value) (g : Val → Val → Val) : Prop := ∃ n k, F = .func (.func n) #[] k ∧ Enters n ∧ ∀ W' x y, Below W.heap.size W W' → VOk x → VOk y → Calls Tryz.prog n (#[x.v, y.v] ++ k) W' fun r w' => r = .returned (g x y).v ∧ Below W'.heap.size W' w'
/-- A function that works an expression out. -/
def Work (W : World) (F : Value) (e : Ex) : Prop := ∃ n k, F = .func (.func n) #[] k ∧ Enters n ∧ ∀ W' a c row, Below W.heap.size W W' → RowAt W' a row → (∀ x ∈ row, VOk x) → row.length ≤ 140737488355328 → Calls Tryz.prog n (#[.slice a row.length c] ++ k) W' fun r w' => r = .returned (evalE row e).v ∧ Below W'.heap.size W' w'
theorem Work.later {W W' : World} {F : Value} {e : Ex} (h : Work W F e) (hb : Below W.heap.size W W') : Work W' F e := by
  obtain ⟨n, k, h1, h2, h3⟩ := h
  exact ⟨n, k, h1, h2, fun W2 a c row hW => h3 W2 a c row (below_step hb hW)⟩
theorem Fun1.later {W W' : World} {F : Value} {g : Val → Val} (h : Fun1 W F g) (hb : Below W.heap.size W W') : Fun1 W' F g := by
  obtain ⟨n, k, h1, h2, h3⟩ := h
  exact ⟨n, k, h1, h2, fun W2 x hW => h3 W2 x (below_step hb hW)⟩
theorem Fun2.later {W W' : World} {F : Value} {g : Val → Val → Val} (h : Fun2 W F g) (hb : Below W.heap.size W W') : Fun2 W' F g := by
  obtain ⟨n, k, h1, h2, h3⟩ := h
  exact ⟨n, k, h1, h2, fun W2 x y hW => h3 W2 x y (below_step hb hW)⟩
theorem zeroAt_new (w : World) : ZeroAt (w.alloc (.cells #[.int .i64 0, .int .i64 0, .string ⟨#[]⟩] 65)) w.heap.size := by
  refine ⟨?_, ?_, ?_, ?_, ?_, ?_⟩ <;> simp [go_sem]
theorem put3 {w W : World} {B : Nat} (hb : Below w.heap.size w W) (hB : w.heap.size ≤ B) (u v x : Value) : Below w.heap.size w (((W.setCell ⟨B, 0, none⟩ u).setCell ⟨B, 1, none⟩ v).setCell ⟨B, 2, none⟩ x) :=
  (((hb.setCell (by simpa using hB) _).setCell (by simpa using hB) _).setCell (by simpa using hB) _)
end Go.Proofs.YtcpndojkfngioaaGreat
set_option linter.unusedSimpArgs false
set_option linter.unusedVariables false
namespace Go.Proofs.YtcpndojkfngioaaGreat
open Go.RowKit Go.Sort

theorem Fun1.of {W : World} {F : Value} {g g' : Val → Val} (h : Fun1 W F g) (e : g = g') : Fun1 W F g' := e ▸ h
theorem Fun2.of {W : World} {F : Value} {g g' : Val → Val → Val} (h : Fun2 W F g) (e : g = g') : Fun2 W F g' := e ▸ h
end Go.Proofs.YtcpndojkfngioaaGreat
set_option linter.unusedSimpArgs false
set_option linter.unusedVariables false
namespace Go.Proofs.YtcpndojkfngioaaGreat
open Go.RowKit Go.Sort

theorem vok_truth (b : Bool) : VOk (truthV b) := by
  cases b
  · exact vok_num ⟨by decide, by decide⟩
  · exact vok_num ⟨by decide, by decide⟩
theorem fits_in {n : Int} (h : fitsB n = true) : In64 n := by
  unfold fitsB at h
  simp only [Bool.and_eq_true, decide_eq_true_eq] at h
  exact h
theorem ite_so {c : Prop} [Decidable c] {a n : Int} (h : (if c then some a else none) = some n) : c ∧ a = n := by
  by_cases hc : c
  · rw [if_pos hc] at h; injection h with h; exact ⟨hc, h⟩
  · rw [if_neg hc] at h; cases h
theorem tmod_in {x y : Int} (hx : In64 x) : In64 (x.tmod y) := by
  have h1 : (x.tmod y).natAbs ≤ x.natAbs := by rw [Int.natAbs_tmod]; exact Nat.mod_le _ _
  obtain ⟨h2, h3⟩ := hx
  by_cases h0 : 0 ≤ x
  · have := Int.tmod_nonneg y h0
    exact ⟨by omega, by omega⟩
  · have e : x.tmod y = -((-x).tmod y) := by rw [Int.neg_tmod]; omega
    have := Int.tmod_nonneg y (a := -x) (by omega)
    exact ⟨by omega, by omega⟩
theorem reck_in {op x y n : Int} (hx : In64 x) (h : reck op x y = some n) : In64 n := by
  unfold reck at h
  split at h
  · obtain ⟨h1, rfl⟩ := ite_so h; exact fits_in h1
  split at h
  · obtain ⟨h1, rfl⟩ := ite_so h; exact fits_in h1
  split at h
  · obtain ⟨h1, rfl⟩ := ite_so h; exact fits_in h1
  split at h
  · split at h
    · cases h
    · obtain ⟨h1, rfl⟩ := ite_so h; exact fits_in h1
  split at h
  · split at h
    · cases h
    · injection h with h; rw [← h]; exact tmod_in hx
  · cases h
theorem vok_reck (op : Int) (x y : Val) (hx : VOk x) : VOk (reckV op x y) := by
  unfold reckV
  split
  · cases h : reck op x.n y.n with
    | none => exact vok_null
    | some n => exact vok_num (reck_in hx.1 h)
  · exact vok_null
theorem vok_test (op : Int) (x y : Val) : VOk (testV op x y) := by
  unfold testV
  split
  · exact vok_null
  · unfold testR
    split
    · exact vok_truth _
    · exact vok_null
theorem vok_both (op : Int) (x y : Val) : VOk (bothV op x y) := by
  unfold bothV
  repeat' split
  all_goals first | exact vok_truth _ | exact vok_null
theorem vok_cat (x y : Val) : VOk (catV x y) := by
  unfold catV
  split
  · rename_i h
    simp only [Bool.and_eq_true, decide_eq_true_eq] at h
    refine ⟨⟨by show -9223372036854775808 ≤ (0 : Int); decide, by show (0 : Int) ≤ 9223372036854775807; decide⟩, ?_⟩
    show (x.s ++ y.s).size ≤ _
    rw [ByteArray.size_append]; omega
  · exact vok_null
theorem vok_not (x : Val) : VOk (notV x) := by
  unfold notV
  split
  · exact vok_truth _
  · exact vok_null
theorem vok_one (op : Int) {x : Val} (hx : VOk x) : VOk (oneV op x) := by
  unfold oneV
  split
  · exact vok_reck _ _ _ (vok_num ⟨by decide, by decide⟩)
  · split
    · exact vok_not x
    · split
      · split
        · exact vok_num ⟨by decide, by decide⟩
        · exact vok_num ⟨by decide, by decide⟩
      · split
        · have := hx.2
          exact vok_num ⟨by omega, by omega⟩
        · exact vok_null
theorem vok_two (op : Int) {x y : Val} (hx : VOk x) (hy : VOk y) : VOk (twoV op x y) := by
  unfold twoV
  split
  · exact vok_reck _ _ _ hx
  · split
    · exact vok_test _ _ _
    · split
      · exact vok_cat _ _
      · exact vok_both _ _ _
theorem vok_node {op n : Int} {v : Val} {row : List Val} (hv : VOk v) (hr : ∀ x ∈ row, VOk x) : ∀ (l : List Val), (∀ x ∈ l, VOk x) → VOk (nodeV op n v row l)
  | [], _ => by
    show VOk (if op == 2 then cleanV v else if decide ((row.length : Int) ≤ n) then .null else cleanV (row.getD n.toNat .null))
    split
    · exact vok_clean hv
    · split
      · exact vok_null
      · rw [List.getD_eq_getElem?_getD]
        cases h : row[n.toNat]? with
        | none => exact vok_clean vok_null
        | some x => exact vok_clean (hr x (List.mem_of_getElem? h))
  | [x], h => vok_one op (h x (by simp))
  | [x, y], h => vok_two op (h x (by simp)) (h y (by simp))
  | x :: y :: z :: t, h => by
    show VOk (if trueB x then y else z)
    split
    · exact h y (by simp)
    · exact h z (by simp)
mutual
theorem eval_ok {row : List Val} (hr : ∀ x ∈ row, VOk x) : ∀ (e : Ex), e.fin → VOk (evalE row e)
  | .mk op n v l, hf => by
    rw [Ex.fin] at hf
    rw [evalE]
    exact vok_node ⟨hf.1.2.2.1, hf.1.2.1⟩ hr _ (evalL_ok hr l hf.2)
theorem evalL_ok {row : List Val} (hr : ∀ x ∈ row, VOk x) : ∀ (l : List Ex), Ex.fins l → ∀ x ∈ evalL row l, VOk x
  | [], _ => by rw [evalL]; intro x hx; cases hx
  | e :: l, hf => by
    rw [Ex.fins] at hf
    rw [evalL]
    intro x hx
    rcases List.mem_cons.1 hx with rfl | hx
    · exact eval_ok hr e hf.1
    · exact evalL_ok hr l hf.2 x hx
end
theorem evalE_eq (row : List Val) (e : Ex) : evalE row e = nodeV e.op e.n e.v row (evalL row e.args) := by
  cases e with
  | mk op n v l => rw [evalE]; rfl
theorem no_args {e : Ex} (h : goodE e) (h0 : e.args = []) : (e.op = 1 ∧ 0 ≤ e.n) ∨ e.op = 2 := by
  have hs := (good_open h).1
  have hl := sound_len hs
  rw [h0] at hl
  have ha : arI e.op = 0 := hl.symm
  have h12 : e.op = 1 ∨ e.op = 2 := by
    by_cases h1 : e.op = 1
    · exact .inl h1
    by_cases h2 : e.op = 2
    · exact .inr h2
    unfold arI at ha
    have e1 : (e.op == 1) = false := by simpa using h1
    have e2 : (e.op == 2) = false := by simpa using h2
    rw [e1, e2] at ha
    simp only [Bool.false_eq_true, if_false] at ha
    split at ha
    · cases ha
    · split at ha
      · cases ha
      · split at ha <;> cases ha
  rcases h12 with h1 | h1
  · refine .inl ⟨h1, ?_⟩
    unfold soundE at hs
    rw [h1] at hs
    simp only [Bool.and_eq_true] at hs
    simpa using hs.2
  · exact .inr h1
end Go.Proofs.YtcpndojkfngioaaGreat

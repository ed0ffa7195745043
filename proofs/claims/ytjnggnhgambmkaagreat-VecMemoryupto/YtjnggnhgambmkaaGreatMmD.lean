import Derived.Test.YtjnggnhgambmkaaGreatMmA
import Derived.Test.YtjnggnhgambmkaaGreatVecO
import Derived.Deep.DeepCutAuto
import Derived.Deep.DrawnRows
import Derived.Lib.Bytealg
set_option linter.unusedSimpArgs false
set_option linter.unusedVariables false
set_option maxRecDepth 100000
namespace Go.Proofs.YtjnggnhgambmkaaGreat
open Go.RowKit Go.Sort

set_option maxHeartbeats 4000000 in
theorem spoiltT {w : World} {base n : Nat} {S : Value} {ys : List Value} (ho : w.ownsRow base 9 1 S n ys) (hl : n ≤ 2097152) (x : ByteArray) : Calls Tryz.prog 33 #[S, .string x] w fun e w' => e = .returned (.tuple #[]) ∧ w.grownBy w' S.ownBlock := by
  have HS0 := hide (SpS.start ho)
  obtain ⟨aS, cS, hS⟩ := own_slice ho
  subst hS
  clear ho
  have HAP := hide app_okT
  have HC1 : Hid (∀ (W : World) j u, [.string x][j]? = some u → (W.alloc (.cells #[.string x] 9)).cell? ((⟨W.heap.size, 0, none⟩ : Addr).add j) = some u) := fun W j u hu => by
    rw [Addr.add_lit]
    match j, hu with
    | 0, hu => simp at hu; subst hu; simp [go_sem]
    | j + 1, hu => simp at hu
  have HO1 : Hid (∀ u ∈ ([.string x] : List Value), u.oneCell' = true) := fun u hu => by simp at hu; subst hu; rfl
  go_enter Tryz.func33, Tryz.ntmps33
  go_wp2_with fail
  go_loopw [11] (fun s11 wr => ∃ i : Nat, s11 = .int .i64 (i : Int) ∧ i ≤ n ∧ Hid (SpS 9 1 w wr (.slice aS n cS) n)) (fun s _ => n - (intOf s).toNat)
  case atStart => exact ⟨0, rfl, Nat.zero_le _, HS0⟩
  case round =>
    obtain ⟨i, rfl, hin, HS⟩ := hrel
    clear HS0
    by_cases hi : i < n
    · obtain ⟨g, cap, hg⟩ := (unhide HS).some (by omega)
      injection hg with hg _ hcap
      subst hg hcap
      obtain ⟨ec, ez⟩ := (unhide HS).facts
      obtain ⟨y, e0⟩ := ec i (by omega)
      have z0 := ez i
      have HS2 := hide ((unhide HS).set (j := i) (.string x))
      have i1 : (i : Int) < (n : Int) := by omega
      clear ez ec
      go_wp2
      go_roundw
      case rel => exact ⟨i + 1, by go_num, by omega, HS2⟩
      case measure => simp [intOf]; omega
    · obtain rfl : i = n := by omega
      have HT0 := hide (SpT.self (unhide HS))
      go_wp2_with fail
      go_loopw [5, 6] (fun s5 s6 wq => ∃ (j : Nat) (T : Value), s5 = T ∧ s6 = .int .i64 (j : Int) ∧ j ≤ 20 ∧ Hid (SpS 9 1 w wq (.slice aS i cS) i) ∧ Hid (SpT 9 1 w wq (.slice aS i cS) i T (i + j))) (fun _ s _ => 20 - (intOf s).toNat)
      case atStart => exact ⟨0, _, rfl, rfl, Nat.zero_le _, HS, HT0⟩
      case round =>
        obtain ⟨j, T, rfl, rfl, hj, HQ, HT⟩ := hrel
        clear HS HT0
        obtain ⟨aT, cT, hT⟩ := (unhide HT).slice
        subst hT
        by_cases hj2 : j < 20
        · have hb : Below wr.heap.size wr (wr.alloc (.cells #[.string x] 9)) := below_alloc (Below.refl _ _) _
          obtain ⟨T', w', hrun, hQ', hT', _⟩ := SpT.app (c := 1) (unhide HAP) ((unhide HQ).later hb) ((unhide HT).later hb) 27 ⟨wr.heap.size, 0, none⟩ (m := 1) (ys := [.string x]) rfl (unhide HC1 wr) (unhide HO1) (by omega) (by omega)
          have HQ' := hide hQ'
          have HT' := hide hT'
          have i1 : (j : Int) < 20 := by omega
          clear hQ' hT' hb
          go_wp2_with (at_builtin; refine wpList_app_run rfl (.tmp 24) (.tmp 26) 27 rfl _ _ rfl rfl hrun ?_)
          go_roundw
          case rel => exact ⟨j + 1, T', rfl, by go_num, by omega, HQ', HT'⟩
          case measure => simp [intOf]; omega
        · have i1 : ¬ (j : Int) < 20 := by omega
          clear HT
          go_wp2_with fail
          go_loopw [7, 8] (fun s7 s8 wq => ∃ (j : Nat) (M : Value), M = s7 ∧ s8 = .int .i64 (j : Int) ∧ j ≤ 64 ∧ Hid (SpS 9 1 w wq (.slice aS i cS) i) ∧ Hid (Mm 9 1 w wq M j)) (fun _ s _ => 64 - (intOf s).toNat)
          case atStart => exact ⟨0, _, rfl, rfl, Nat.zero_le _, HQ, Mm.nil⟩
          case round =>
            obtain ⟨q, M, rfl, rfl, hq, HR, HM⟩ := hrel
            clear HQ i1
            obtain ⟨aM, cM, hMs⟩ := (unhide HM).slice
            subst hMs
            by_cases hq2 : q < 64
            · have hb : Below wr.heap.size wr (wr.alloc (.cells #[.string x] 9)) := below_alloc (Below.refl _ _) _
              obtain ⟨M', w', hrun, hR', hM'⟩ := Mm.step (c := 1) (unhide HAP) (unhide HR) (unhide HM) hb 27 ⟨wr.heap.size, 0, none⟩ (ys := [.string x]) rfl (unhide HC1 wr) (unhide HO1) (by omega)
              have HR' := hide hR'
              have HM' := hide hM'
              have i1 : (q : Int) < 64 := by omega
              clear hR' hM' hb
              go_wp2_with (at_builtin; refine wpList_app_run rfl (.tmp 32) (.tmp 34) 27 rfl _ _ rfl rfl hrun ?_)
              go_roundw
              case rel => exact ⟨q + 1, M', rfl, by go_num, by omega, HR', HM'⟩
              case measure => simp [intOf]; omega
            · obtain rfl : q = 64 := by omega
              obtain ⟨T', w', hrun, hF⟩ := Mm.last (M := .slice aM 64 cM) (unhide HAP) (unhide HR) (unhide HM) (by omega) 27 (by omega)
              have HF := hide hF
              clear hF
              go_wp2_with (at_builtin; refine wpList_app_run rfl (.tmp 36) (.tmp 37) 27 rfl _ _ rfl rfl hrun ?_)
              go_end0
              exact ⟨rfl, unhide HF⟩
end Go.Proofs.YtjnggnhgambmkaaGreat
set_option linter.unusedSimpArgs false
set_option linter.unusedVariables false
namespace Go.Proofs.YtjnggnhgambmkaaGreat
open Go.RowKit Go.Sort


/-- -1, 0 or 1: the order of two numbers; of two texts. -/
def cmpI (x y : Int) : Int := if x < y then -1 else if y < x then 1 else 0

set_option maxHeartbeats 1000000 in
theorem cmpInt_any (x y : Int) (w : World) :
    Calls Tryz.prog 80 #[.int .i64 x, .int .i64 y] w fun e w' => e = .returned (.int .i64 (cmpI x y)) ∧ w' = w := by
  unfold cmpI
  go_enter Tryz.func80, Tryz.ntmps80
  go_wp2
  all_goals (go_ret; exact ⟨rfl, rfl⟩)
set_option maxHeartbeats 1000000 in
theorem cmpInt64_any (x y : Int) (w : World) :
    Calls Tryz.prog 81 #[.int .i64 x, .int .i64 y] w fun e w' => e = .returned (.int .i64 (cmpI x y)) ∧ w' = w := by
  unfold cmpI
  go_enter Tryz.func81, Tryz.ntmps81
  go_wp2
  all_goals (go_ret; exact ⟨rfl, rfl⟩)

def cmpB (x y : ByteArray) : Int := Lib.compareBytes x.data.toList y.data.toList
theorem run79 (x y : ByteArray) (w : World) : (callFunc 106 #[.string x, .string y]).run Tryz.prog w = .ok (.value (.int .i64 (cmpB x y))) w := by
  rw [run_callFunc_extern Tryz.func106 (by kernel_rfl) (by kernel_rfl) (by kernel_rfl) (e := Extern.BytealgCompare.compare) (by kernel_rfl), Lib.run_compareString]
  rfl
theorem cmpStr_any (x y : ByteArray) (w : World) :
    Calls Tryz.prog 82 #[.string x, .string y] w fun e w' => e = .returned (.int .i64 (cmpB x y)) ∧ w' = w := by
  have h79 := run79 x y
  go_enter Tryz.func82, Tryz.ntmps82
  go_wp2
  go_ret
  exact ⟨rfl, rfl⟩

/-- The first of three that is not 0. -/
def orI (x y z : Int) : Int := if x ≠ 0 then x else if y ≠ 0 then y else z

set_option maxHeartbeats 1000000 in
theorem or3_any (b : Nat) (x y z : Int) (w : World) (h0 : w.cell? ⟨b, 0, none⟩ = some (.int .i64 x)) (h1 : w.cell? ⟨b, 1, none⟩ = some (.int .i64 y)) (h2 : w.cell? ⟨b, 2, none⟩ = some (.int .i64 z)) :
    Calls Tryz.prog 79 #[.slice (some ⟨b, 0, none⟩) 3 3] w fun e w' => e = .returned (.int .i64 (orI x y z)) ∧ w' = w := by
  go_enter Tryz.func79, Tryz.ntmps79
  go_wp2
  go_loop [8] (fun i => ∃ k : Nat, k ≤ 3 ∧ i = .int .i64 k ∧ (1 ≤ k → x = 0) ∧ (2 ≤ k → y = 0) ∧ (3 ≤ k → z = 0)) (fun i => 3 - (intOf i).toNat)
  case atStart => exact ⟨0, Nat.zero_le _, rfl, by omega, by omega, by omega⟩
  case round =>
    obtain ⟨k, hk, rfl, r1, r2, r3⟩ := hrel
    rcases (show k = 0 ∨ k = 1 ∨ k = 2 ∨ k = 3 by omega) with rfl | rfl | rfl | rfl
    · clear r1 r2 r3
      by_cases hx : x = 0
      · have hx' : (x != 0) = false := by simpa using hx
        have HX := hide hx
        clear hx
        go_wp2
        go_round
        case rel => exact ⟨1, by omega, rfl, fun _ => unhide HX, by omega, by omega⟩
        case measure => simp [intOf]
      · have hx' : (x != 0) = true := by simpa using hx
        have HX := hide hx
        clear hx
        go_wp2
        go_ret
        exact ⟨by simp [orI, unhide HX], rfl⟩
    · have HX := hide (r1 (by omega))
      clear r1 r2 r3
      by_cases hx : y = 0
      · have hx' : (y != 0) = false := by simpa using hx
        have HY := hide hx
        clear hx
        go_wp2
        go_round
        case rel => exact ⟨2, by omega, rfl, fun _ => unhide HX, fun _ => unhide HY, by omega⟩
        case measure => simp [intOf]
      · have hx' : (y != 0) = true := by simpa using hx
        have HY := hide hx
        clear hx
        go_wp2
        go_ret
        exact ⟨by simp [orI, unhide HX, unhide HY], rfl⟩
    · have HX := hide (r1 (by omega))
      have HY := hide (r2 (by omega))
      clear r1 r2 r3
      by_cases hx : z = 0
      · have hx' : (z != 0) = false := by simpa using hx
        have HZ := hide hx
        clear hx
        go_wp2
        go_round
        case rel => exact ⟨3, by omega, rfl, fun _ => unhide HX, fun _ => unhide HY, fun _ => unhide HZ⟩
        case measure => simp [intOf]
      · have hx' : (z != 0) = true := by simpa using hx
        have HZ := hide hx
        clear hx
        go_wp2
        go_ret
        exact ⟨by simp [orI, unhide HX, unhide HY], rfl⟩
    · have HX := hide (r1 (by omega))
      have HY := hide (r2 (by omega))
      have HZ := hide (r3 (by omega))
      clear r1 r2 r3
      go_wp2
      go_ret
      exact ⟨by simp [orI, unhide HX, unhide HY, unhide HZ], rfl⟩

def BoxAt (w : World) (b : Nat) (x : Val) : Prop := w.cell? ⟨b, 0, none⟩ = some (.int .i64 x.k) ∧ w.cell? ⟨b, 1, none⟩ = some (.int .i64 x.n) ∧ w.cell? ⟨b, 2, none⟩ = some (.string x.s)
theorem BoxAt.later {w w' : World} {b : Nat} {x : Val} (h : BoxAt w b x) (hb : Below w.heap.size w w') : BoxAt w' b x :=
  ⟨cell_later hb h.1, cell_later hb h.2.1, cell_later hb h.2.2⟩
/-- A box that may be written. -/
def FreeAt (w : World) (b : Nat) : Prop := w.frozen? ⟨b, 0, none⟩ = false ∧ w.frozen? ⟨b, 1, none⟩ = false ∧ w.frozen? ⟨b, 2, none⟩ = false
theorem FreeAt.later {w w' : World} {b : Nat} (h : FreeAt w b) (hl : b < w.heap.size) (hb : Below w.heap.size w w') : FreeAt w' b := by
  obtain ⟨hc, hf⟩ := bcell hb
  unfold FreeAt
  rw [hf _ _ hl, hf _ _ hl, hf _ _ hl]
  exact h

def boxes (w : World) (a b : Val) : World := (w.alloc (.cells #[.int .i64 a.k, .int .i64 a.n, .string a.s] 38)).alloc (.cells #[.int .i64 b.k, .int .i64 b.n, .string b.s] 38)
theorem boxes_size (w : World) (a b : Val) : (boxes w a b).heap.size = w.heap.size + 1 + 1 := by simp [boxes]
theorem boxes_facts {w w' : World} {a b : Val} (h : Below (boxes w a b).heap.size (boxes w a b) w') :
    BoxAt w' w.heap.size a ∧ BoxAt w' (w.heap.size + 1) b ∧ FreeAt w' w.heap.size ∧ FreeAt w' (w.heap.size + 1) ∧ w.heap.size + 1 < w'.heap.size := by
  have hs := h.size
  rw [boxes_size] at hs
  obtain ⟨hc, hf⟩ := bcell h
  refine ⟨⟨?_, ?_, ?_⟩, ⟨?_, ?_, ?_⟩, ⟨?_, ?_, ?_⟩, ⟨?_, ?_, ?_⟩, by omega⟩
  all_goals first | (rw [hc _ _ (by rw [boxes_size]; omega)]; simp [boxes, go_sem]; done) | (rw [hf _ _ (by rw [boxes_size]; omega)]; simp [boxes, go_sem]; done)
theorem boxes_below {w w' : World} {a b : Val} (h : Below (boxes w a b).heap.size (boxes w a b) w') : Below w.heap.size w w' :=
  (((Below.refl _ _).alloc (Nat.le_refl _) _).alloc (by simp) _).trans (h.mono (by rw [boxes_size]; omega))
theorem boxes_drew (w : World) (a b : Val) : Below (boxes w a b).heap.size (boxes w a b) (boxes w a b).drew := (Below.refl _ _).drew

theorem put_two {w w2 : World} {a b : Val} (ca cb : Val) (h : Below (boxes w a b).heap.size (boxes w a b) w2) :
    BoxAt ((((((w2.setCell ⟨w.heap.size, 0, none⟩ (.int .i64 ca.k)).setCell ⟨w.heap.size, 1, none⟩ (.int .i64 ca.n)).setCell ⟨w.heap.size, 2, none⟩ (.string ca.s)).setCell ⟨w.heap.size + 1, 0, none⟩ (.int .i64 cb.k)).setCell ⟨w.heap.size + 1, 1, none⟩ (.int .i64 cb.n)).setCell ⟨w.heap.size + 1, 2, none⟩ (.string cb.s)) w.heap.size ca ∧
    BoxAt ((((((w2.setCell ⟨w.heap.size, 0, none⟩ (.int .i64 ca.k)).setCell ⟨w.heap.size, 1, none⟩ (.int .i64 ca.n)).setCell ⟨w.heap.size, 2, none⟩ (.string ca.s)).setCell ⟨w.heap.size + 1, 0, none⟩ (.int .i64 cb.k)).setCell ⟨w.heap.size + 1, 1, none⟩ (.int .i64 cb.n)).setCell ⟨w.heap.size + 1, 2, none⟩ (.string cb.s)) (w.heap.size + 1) cb ∧
    Below w.heap.size w ((((((w2.setCell ⟨w.heap.size, 0, none⟩ (.int .i64 ca.k)).setCell ⟨w.heap.size, 1, none⟩ (.int .i64 ca.n)).setCell ⟨w.heap.size, 2, none⟩ (.string ca.s)).setCell ⟨w.heap.size + 1, 0, none⟩ (.int .i64 cb.k)).setCell ⟨w.heap.size + 1, 1, none⟩ (.int .i64 cb.n)).setCell ⟨w.heap.size + 1, 2, none⟩ (.string cb.s)) := by
  obtain ⟨⟨a0, a1, a2⟩, ⟨b0, b1, b2⟩, ⟨f0, f1, f2⟩, ⟨g0, g1, g2⟩, hz⟩ := boxes_facts h
  refine ⟨⟨by simp [go_sem, *], by simp [go_sem, *], by simp [go_sem, *]⟩, ⟨by simp [go_sem, *], by simp [go_sem, *], by simp [go_sem, *]⟩, ?_⟩
  exact ((((((boxes_below h).setCell (by simp) _).setCell (by simp) _).setCell (by simp) _).setCell (by simp) _).setCell (by simp) _).setCell (by simp) _

def ordV (x y : Val) : Int := orI (cmpI (cleanV x).k (cleanV y).k) (cmpI (cleanV x).n (cleanV y).n) (cmpB (cleanV x).s (cleanV y).s)

set_option maxHeartbeats 2000000 in
set_option maxRecDepth 100000 in
theorem order_any (a b : Val) (w : World) :
    Calls Tryz.prog 64 #[a.v, b.v] w fun e w' => e = .returned (.int .i64 (ordV a b)) ∧ Below w.heap.size w w' := by
  rw [a.open_, b.open_]
  have HA := hide (clean_any a)
  have HB := hide (clean_any b)
  unfold ordV
  generalize cleanV a = ca at *
  generalize cleanV b = cb at *
  go_enter Tryz.func64, Tryz.ntmps64
  go_upto_region 1 with fail
  go_cut [] (fun wx => BoxAt wx w.heap.size ca ∧ BoxAt wx (w.heap.size + 1) cb ∧ Below w.heap.size w wx)
  case first =>
    go_region_with (first
      | (go_at_call_of 24 (Value.agg #[Value.int IntKind.i64 a.k, Value.int IntKind.i64 a.n, Value.string a.s]); refine (unhide HA _).mono ?_; rintro e w1 ⟨rfl, hb1⟩; rw [Val.open_]; have B1 := below_step (boxes_drew w a b) hb1; obtain ⟨⟨a0, a1, a2⟩, ⟨b0, b1, b2⟩, ⟨f0, f1, f2⟩, ⟨g0, g1, g2⟩, hz⟩ := boxes_facts B1)
      | (go_at_call_of 24 (Value.agg #[Value.int IntKind.i64 b.k, Value.int IntKind.i64 b.n, Value.string b.s]); refine (unhide HB _).mono ?_; rintro e w2 ⟨rfl, hb2⟩; rw [Val.open_]; have B2 := below_step B1 hb2; obtain ⟨⟨a0, a1, a2⟩, ⟨b0, b1, b2⟩, ⟨f0, f1, f2⟩, ⟨g0, g1, g2⟩, hz⟩ := boxes_facts B2))
    all_goals
      go_wp2_with fail
      go_meet
      exact put_two ca cb B2
  case rest =>
    obtain ⟨⟨a0, a1, a2⟩, ⟨b0, b1, b2⟩, hbel⟩ := hcut
    clear HA HB
    rename World => wa
    go_upto_region 2 with fail
    go_region_held3 (fun w' => w'.cell? ⟨w.heap.size, 0, none⟩ = some (.int .i64 ca.k) ∧ w'.cell? ⟨w.heap.size, 1, none⟩ = some (.int .i64 ca.n) ∧ w'.cell? ⟨w.heap.size, 2, none⟩ = some (.string ca.s) ∧ w'.cell? ⟨w.heap.size + 1, 0, none⟩ = some (.int .i64 cb.k) ∧ w'.cell? ⟨w.heap.size + 1, 1, none⟩ = some (.int .i64 cb.n) ∧ w'.cell? ⟨w.heap.size + 1, 2, none⟩ = some (.string cb.s))
      (go_keep)
      (first
        | (go_at_call 80; refine (cmpInt_any _ _ _).mono ?_; rintro e w1 ⟨rfl, rfl⟩)
        | (go_at_call 81; refine (cmpInt64_any _ _ _).mono ?_; rintro e w1 ⟨rfl, rfl⟩)
        | (go_at_call 82; refine (cmpStr_any _ _ _).mono ?_; rintro e w1 ⟨rfl, rfl⟩)
        | (go_at_call 79; refine (or3_any _ (cmpI ca.k cb.k) (cmpI ca.n cb.n) (cmpB ca.s cb.s) _ ?_ ?_ ?_).mono ?_; (simp [go_sem]); (simp [go_sem]); (simp [go_sem]); rintro e w1 ⟨rfl, rfl⟩))
    go_wp2
    go_ret
    exact ⟨rfl, (below_alloc hbel _).drew⟩


theorem less_cmp : ∀ (x y : List UInt8), (if x == y then 0 else if Op.bytesLess x y then -1 else 1 : Int) = Lib.compareBytes x y
  | [], [] => by simp [Lib.compareBytes]
  | [], b :: y => by simp [Lib.compareBytes, Op.bytesLess]
  | a :: x, [] => by simp [Lib.compareBytes, Op.bytesLess]
  | a :: x, b :: y => by
    rw [Lib.compareBytes]
    by_cases h : a < b
    · have hne : a ≠ b := fun e => by subst e; exact absurd h (UInt8.lt_irrefl a)
      simp [h, Op.bytesLess, hne]
    · by_cases h2 : b < a
      · have hne : a ≠ b := fun e => by subst e; exact absurd h2 (UInt8.lt_irrefl a)
        simp [h, h2, Op.bytesLess, hne]
      · have e : a = b := UInt8.le_antisymm (UInt8.not_lt.1 h2) (UInt8.not_lt.1 h)
        subst e
        rw [← less_cmp x y]
        simp [h, Op.bytesLess]
theorem cmpI_cmp (x y : Int) : (if x == y then 0 else if decide (x < y) then -1 else 1 : Int) = cmpI x y := by
  unfold cmpI
  by_cases h : x = y
  · subst h; simp
  · by_cases h2 : x < y
    · simp [h, h2]
    · have : y < x := by omega
      simp [h, h2, this]

def rcmpI (x y : Bool) : Int := if y then 0 else if x then -1 else 1
theorem clean_s {x : Val} (h : (cleanV x).k = 1) : (cleanV x).s = ⟨#[]⟩ := by
  by_cases h1 : (x.k == 1) = true
  · have e : cleanV x = .num x.n := by simp only [cleanV, h1, if_true]
    rw [e]; rfl
  · by_cases h2 : (x.k == 2) = true
    · have e : cleanV x = .str x.s := by simp only [cleanV, h1, h2, if_true]; rfl
      rw [e] at h; simp [Val.str] at h
    · have e : cleanV x = .null := by simp only [cleanV, h1, h2]; rfl
      rw [e]; rfl
theorem orI_last (c : Int) : orI 0 c 0 = c := by unfold orI; by_cases h : c = 0 <;> simp [h]
theorem orI_third (c : Int) : orI 0 0 c = c := by unfold orI; simp
theorem clean_n {x : Val} (h : ¬ (cleanV x).k = 1) : (cleanV x).n = 0 := by
  unfold cleanV at *
  split
  · rename_i h1; simp [h1, Val.num] at h
  · split <;> rfl
theorem cmpB_nil : cmpB ⟨#[]⟩ ⟨#[]⟩ = 0 := rfl
theorem cmpI_self (x : Int) : cmpI x x = 0 := by simp [cmpI]
theorem ord_kinds (a b : Val) (h : ¬ (cleanV a).k = (cleanV b).k) : ordV a b = rcmpI (decide ((cleanV a).k < (cleanV b).k)) false := by
  unfold ordV rcmpI orI cmpI
  by_cases h2 : (cleanV a).k < (cleanV b).k
  · simp [h2]
  · have : (cleanV b).k < (cleanV a).k := by omega
    simp [h2, this]
theorem ord_nums (a b : Val) (h : (cleanV a).k = (cleanV b).k) (h1 : (cleanV a).k = 1) : ordV a b = rcmpI (decide ((cleanV a).n < (cleanV b).n)) ((cleanV a).n == (cleanV b).n) := by
  unfold ordV
  rw [clean_s h1, clean_s (h ▸ h1), h, cmpI_self, cmpB_nil, orI_last, ← cmpI_cmp, rcmpI]
theorem ord_texts (a b : Val) (h : (cleanV a).k = (cleanV b).k) (h1 : ¬ (cleanV a).k = 1) : ordV a b = rcmpI (Op.bytesLess (cleanV a).s.toList (cleanV b).s.toList) ((cleanV a).s.toList == (cleanV b).s.toList) := by
  unfold ordV
  rw [clean_n h1, clean_n (h ▸ h1), h, cmpI_self, cmpI_self, rcmpI, orI_third]
  unfold cmpB
  rw [← less_cmp (cleanV a).s.data.toList (cleanV b).s.data.toList]
  simp only [Lib.toList_data]

end Go.Proofs.YtjnggnhgambmkaaGreat

import Derived.Test.YtcbenpodohjbiaaGreatSpO
set_option linter.unusedSimpArgs false
set_option linter.unusedVariables false
set_option maxRecDepth 100000
namespace Go.Proofs.YtcbenpodohjbiaaGreat
open Go.RowKit Go.Sort

/-- A refusal is an error, or there will be none for so many calls. -/
def Safe (Y : Yv) (n : Nat) : Prop := Y.cd ≠ 0 ∨ (Y.rf = 0 ∧ 0 ≤ Y.calls ∧ Y.calls + n < 4611686018427387904)
theorem Safe.hit {Y : Yv} {n : Nat} (h : Safe Y (n + 1)) (hh : Y.hit = true) : Y.cd ≠ 0 := by
  rcases h with h | ⟨h1, h2, h3⟩
  · exact h
  · exfalso
    unfold Yv.hit at hh
    rw [IntWalk.i64_in _ (by omega), h1] at hh
    simp at hh
    omega
theorem Safe.tick {Y : Yv} {n : Nat} (h : Safe Y (n + 1)) : Safe Y.tick n := by
  rcases h with h | ⟨h1, h2, h3⟩
  · exact .inl h
  · refine .inr ⟨h1, ?_, ?_⟩
    · show 0 ≤ IntKind.i64.wrap (Y.calls + 1)
      rw [IntWalk.i64_in _ (by omega)]; omega
    · show IntKind.i64.wrap (Y.calls + 1) + n < _
      rw [IntWalk.i64_in _ (by omega)]; omega
theorem Safe.of {Y Y' : Yv} {n : Nat} (h : Safe Y n) (h1 : Y'.cd = Y.cd) (h2 : Y'.rf = Y.rf) (h3 : Y'.calls = Y.calls) : Safe Y' n := by
  unfold Safe at *
  rw [h1, h2, h3]
  exact h
theorem Safe.less {Y : Yv} {n k : Nat} (h : Safe Y n) (hk : k ≤ n) : Safe Y k := by
  rcases h with h | ⟨h1, h2, h3⟩
  · exact .inl h
  · exact .inr ⟨h1, h2, by omega⟩
theorem tick_hit {Y : Yv} (h : Y.hit = true) : Y.tick.rd = true ∧ Y.tick.calls = Y.tick.rf := by
  refine ⟨h, ?_⟩
  unfold Yv.hit at h
  show IntKind.i64.wrap (Y.calls + 1) = Y.rf
  simpa using h
/-- A sink: what came in, or a run. -/
def snkA (b y : Nat) : Option Nat → Value
  | none => .agg #[.pointer (some ⟨y, 0, none⟩), .iface 24 (.pointer (some ⟨b, 0, none⟩))]
  | some i => .agg #[.pointer (some ⟨y, 0, none⟩), .int .i64 (i : Nat)]
def snkT : Option Nat → Nat
  | none => 65
  | some _ => 114
def snkF : Option Nat → Nat
  | none => 160
  | some _ => 162
def snkV (b y : Nat) (S : Option Nat) : Value := .iface (snkT S) (snkA b y S)
/-- A sink can take n rows that are held. -/
structure SnkOk (S op : Option Nat) (Y : Yv) (n : Nat) : Prop where
  rd : Y.rd = false
  h0 : (n : Int) ≤ Y.held
  h1 : Y.held ≤ 1048576
  hm : Y.held ≤ Y.most
  rl : Y.runs.length ≤ 1048576
  o : S = none → Y.out.length + n ≤ 1048577
  r : ∀ i, S = some i → op = some i ∧ Y.there[i]? = some true ∧ (∃ rs, Y.runs[i]? = some rs ∧ rs.length + n ≤ 1048577) ∧ 0 ≤ Y.puts ∧ Y.puts + n ≤ 1099511627776
/-- These rows have gone into the sink. -/
structure Mv (S : Option Nat) (l : List (List Val)) (Y Y' : Yv) : Prop where
  rf : Y'.rf = Y.rf
  cd : Y'.cd = Y.cd
  held : Y'.held = Y.held - l.length
  most : Y'.most = Y.most
  there : Y'.there = Y.there
  o : S = none → Y'.out = Y.out ++ l ∧ Y'.runs = Y.runs ∧ Y'.puts = Y.puts
  r : ∀ i, S = some i → Y'.out = Y.out ∧ (∀ rs, Y.runs[i]? = some rs → Y'.runs = Y.runs.set i (rs ++ l)) ∧ Y'.puts = Y.puts + l.length
theorem Mv.trans {S : Option Nat} {l k : List (List Val)} {Y Y1 Y2 : Yv} (h : Mv S l Y Y1) (h2 : Mv S k Y1 Y2) (hr : ∀ i, S = some i → ∃ rs, Y.runs[i]? = some rs) : Mv S (l ++ k) Y Y2 := by
  refine ⟨h2.rf.trans h.rf, h2.cd.trans h.cd, by rw [h2.held, h.held, List.length_append]; omega, h2.most.trans h.most, h2.there.trans h.there, fun e => ?_, fun i e => ?_⟩
  · obtain ⟨a1, a2, a3⟩ := h.o e
    obtain ⟨b1, b2, b3⟩ := h2.o e
    exact ⟨by rw [b1, a1, List.append_assoc], b2.trans a2, b3.trans a3⟩
  · obtain ⟨a1, a2, a3⟩ := h.r i e
    obtain ⟨b1, b2, b3⟩ := h2.r i e
    refine ⟨b1.trans a1, fun rs hrs => ?_, by rw [b3, a3, List.length_append]; omega⟩
    have hi : i < Y.runs.length := (List.getElem?_eq_some_iff.1 hrs).1
    have e1 := a2 rs hrs
    have e2 := b2 (rs ++ l) (by rw [e1, List.getElem?_set, if_pos rfl, if_pos hi])
    rw [e2, e1, List.set_set, List.append_assoc]
theorem hold_most {Y : Yv} {k : Int} (h : Y.held + k ≤ Y.most) : (Y.hold k).most = Y.most := by
  show (if Y.held + k > Y.most then _ else _) = _
  rw [if_neg (by omega)]
/-- What a sink answers to a row. -/
def TakeP (b y m : Nat) (S op : Option Nat) (Y : Yv) (n : Nat) (r : List Val) (F : Nat → Prop) (w : World) (e : Ending) (w' : World) : Prop :=
  ∃ Y' : Yv, ∃ c : Int, e = .returned (.int .i64 c) ∧ Yo w w' b y m Y' op F ∧ ((c = 0 ∧ Mv S [r] Y Y' ∧ SnkOk S op Y' n ∧ Safe Y' n) ∨ (c = Y.cd ∧ Y.cd ≠ 0 ∧ Mv S [] Y Y' ∧ Y'.rd = true ∧ Y'.calls = Y'.rf))
theorem mv_tick (S : Option Nat) (Y : Yv) : Mv S [] Y Y.tick :=
  ⟨rfl, rfl, by simp [Yv.tick], rfl, rfl, fun _ => ⟨by simp [Yv.tick], rfl, rfl⟩, fun i _ => ⟨rfl, fun rs hrs => by
    rw [List.append_nil]
    have hi : i < Y.runs.length := (List.getElem?_eq_some_iff.1 hrs).1
    show Y.runs = Y.runs.set i rs
    have : Y.runs[i] = rs := by rw [List.getElem?_eq_getElem hi] at hrs; injection hrs
    rw [← this, List.set_getElem_self], by simp [Yv.tick]⟩⟩
theorem stake {F : Nat → Prop} {b y m n : Nat} {Y : Yv} {S op : Option Nat} {w : World} {u : Value} {r : List Val} (h : Yw w b y m Y op F) (hu : Rw w u r) (hS : SnkOk S op Y (n + 1)) (hs : Safe Y (n + 1)) :
    Calls Tryz.prog (snkF S) #[snkA b y S, u] w fun e w' => TakeP b y m S op Y n r F w e w' := by
  cases hh : Y.hit
  · have hrd : Y.tick.rd = false := hh
    have h0 := hS.h0
    cases S with
    | none =>
      have ho := hS.o rfl
      refine (otake_ok h hu (by omega) (by omega) hS.h1 hS.rd hh).mono ?_
      rintro _ w' ⟨rfl, hY⟩
      have em : ((Y.tick.push r).hold (-1)).most = Y.most := hold_most (by show Y.held + -1 ≤ Y.most; have := hS.hm; omega)
      refine ⟨_, 0, rfl, hY, .inl ⟨rfl, ⟨rfl, rfl, by simp [Yv.hold, Yv.push, Yv.tick]; omega, em, rfl, fun _ => ⟨rfl, rfl, rfl⟩, fun i e => (by cases e)⟩, ⟨hrd, ?_, ?_, ?_, hS.rl, fun _ => ?_, fun i e => (by cases e)⟩, hs.tick.of rfl rfl rfl⟩⟩
      · show (n : Int) ≤ Y.held + -1; omega
      · show Y.held + -1 ≤ _; have := hS.h1; omega
      · rw [em]; show Y.held + -1 ≤ _; have := hS.hm; omega
      · show (Y.out ++ [r]).length + n ≤ _; rw [List.length_append]; simp; omega
    | some i =>
      obtain ⟨rfl, r2, ⟨rs, r3, r4⟩, r5, r6⟩ := hS.r i rfl
      have hi : i < Y.runs.length := (List.getElem?_eq_some_iff.1 r3).1
      refine (ptake_ok h hu r2 r3 hS.rl (by omega) (by omega) hS.h1 r5 (by omega) hS.rd hh).mono ?_
      rintro _ w' ⟨rfl, hY⟩
      have em : ((Y.tick.put i (rs ++ [r])).hold (-1)).most = Y.most := hold_most (by show Y.held + -1 ≤ Y.most; have := hS.hm; omega)
      refine ⟨_, 0, rfl, hY, .inl ⟨rfl, ⟨rfl, rfl, by simp [Yv.hold, Yv.put, Yv.tick]; omega, em, rfl, fun e => (by cases e), fun j e => by
        injection e with e
        subst e
        refine ⟨rfl, fun rs2 h2 => ?_, by simp [Yv.hold, Yv.put, Yv.tick]⟩
        rw [r3] at h2
        injection h2 with h2
        subst h2
        rfl⟩, ⟨hrd, ?_, ?_, ?_, ?_, fun e => (by cases e), fun j e => by
        injection e with e
        subst e
        refine ⟨rfl, r2, ⟨rs ++ [r], ?_, by rw [List.length_append]; simp; omega⟩, ?_, ?_⟩
        · show (Y.runs.set i (rs ++ [r]))[i]? = _
          rw [List.getElem?_set, if_pos rfl, if_pos hi]
        · show 0 ≤ Y.puts + 1; omega
        · show Y.puts + 1 + n ≤ _; omega⟩, hs.tick.of rfl rfl rfl⟩⟩
      · show (n : Int) ≤ Y.held + -1; omega
      · show Y.held + -1 ≤ _; have := hS.h1; omega
      · rw [em]; show Y.held + -1 ≤ _; have := hS.hm; omega
      · show (Y.runs.set i (rs ++ [r])).length ≤ _; rw [List.length_set]; exact hS.rl
  · have hc := hs.hit hh
    obtain ⟨t1, t2⟩ := tick_hit hh
    have fin : ∀ e w', e = .returned (.int .i64 Y.cd) ∧ Yo w w' b y m Y.tick op F → TakeP b y m S op Y n r F w e w' := fun e w' ⟨q1, q2⟩ => ⟨Y.tick, Y.cd, q1, q2, .inr ⟨rfl, hc, mv_tick S Y, t1, t2⟩⟩
    cases S with
    | none => exact (otake_hit u h hS.rd hh hc).mono fin
    | some i => exact (ptake_hit i u h hS.rd hh hc).mono fin
end Go.Proofs.YtcbenpodohjbiaaGreat
set_option linter.unusedSimpArgs false
set_option linter.unusedVariables false
set_option maxRecDepth 100000
namespace Go.Proofs.YtcbenpodohjbiaaGreat
open Go.RowKit Go.Sort

/-- What handOn answers. -/
def HandP (b y m : Nat) (S op : Option Nat) (Y : Yv) (rs : List (List Val)) (F : Nat → Prop) (w : World) (e : Ending) (w' : World) : Prop :=
  ∃ Y' : Yv, ∃ c : Int, e = .returned (.int .i64 c) ∧ Yo w w' b y m Y' op F ∧ ((c = 0 ∧ Mv S rs Y Y' ∧ SnkOk S op Y' 0) ∨ (c = Y.cd ∧ Y.cd ≠ 0 ∧ ∃ k, k ≤ rs.length ∧ Mv S (rs.take k) Y Y' ∧ Y'.rd = true ∧ Y'.calls = Y'.rf))
theorem mv_refl (S : Option Nat) (Y : Yv) : Mv S [] Y Y := by
  have h := mv_tick S Y
  exact ⟨rfl, rfl, by simp, rfl, rfl, fun _ => ⟨by simp, rfl, rfl⟩, fun i e => ⟨rfl, (h.r i e).2.1, by simp⟩⟩
set_option maxHeartbeats 4000000 in
/-- handOn (39). -/
theorem handOn_any {F : Nat → Prop} {b y m : Nat} {Y : Yv} {S op : Option Nat} {w : World} {v : Value} {rs : List (List Val)} (h : Yw w b y m Y op F) (hL : Lst w v rs) (hv : ∀ g, v.ownBlock = some g → ¬ F g) (hn : rs.length ≤ 1048576) (hS : SnkOk S op Y rs.length) (hs : Safe Y rs.length) :
    Calls Tryz.prog 39 #[v, snkV b y S] w fun e w' => HandP b y m S op Y rs F w e w' := by
  obtain ⟨a, c, rfl⟩ := hL.form
  have hT := fun (w1 : World) (j : Nat) (Y1 : Yv) (r : List Val) (u : Value) (F1 : Nat → Prop) (q1 : Yw w1 b y m Y1 op F1) (q2 : Rw w1 u r) (q3 : SnkOk S op Y1 (j + 1)) (q4 : Safe Y1 (j + 1)) => stake q1 q2 q3 q4
  have HL := hide hL
  have HV := hide hv
  have H0 : Hid (Mv S (rs.take 0) Y Y ∧ SnkOk S op Y rs.length ∧ Safe Y rs.length ∧ Yo w w b y m Y op F) := ⟨mv_refl S Y, hS, hs, F, Nw.refl _ _, fun _ q => q, h, Ky.refl _ _⟩
  have HRun : Hid (∀ i, S = some i → ∃ rs, Y.runs[i]? = some rs) := fun i e => by
    obtain ⟨_, _, ⟨rs, q, _⟩, _⟩ := hS.r i e
    exact ⟨rs, q⟩
  clear h hL hv hS hs
  cases S with
  | none =>
    have hm : ∀ w : World, (method 297 65 (.agg #[.pointer (some ⟨y, 0, none⟩), .iface 24 (.pointer (some ⟨b, 0, none⟩))]) "Take").run Tryz.prog w = .ok (160, .agg #[.pointer (some ⟨y, 0, none⟩), .iface 24 (.pointer (some ⟨b, 0, none⟩))]) w := fun _ => by kernel_rfl
    have HT := hide hT
    change ∀ (w1 : World) (j : Nat) (Y1 : Yv) (r : List Val) (u : Value) (F1 : Nat → Prop), Yw w1 b y m Y1 op F1 → Rw w1 u r → SnkOk none op Y1 (j + 1) → Safe Y1 (j + 1) → Calls Tryz.prog 160 #[.agg #[.pointer (some ⟨y, 0, none⟩), .iface 24 (.pointer (some ⟨b, 0, none⟩))], u] w1 fun e w' => TakeP b y m none op Y1 j r F1 w1 e w' at HT
    clear hT
    show Calls Tryz.prog 39 #[.slice a rs.length c, .iface 65 (.agg #[.pointer (some ⟨y, 0, none⟩), .iface 24 (.pointer (some ⟨b, 0, none⟩))])] w _
    go_enter Tryz.func39, Tryz.ntmps39
    go_wp2_with fail
    go_loopw [10, 4] (fun i z wr => ∃ (k j : Nat) (Yk : Yv), k + j = rs.length ∧ i = .int .i64 (k : Int) ∧ z = .int .i64 0 ∧ Hid (Mv none (rs.take k) Y Yk ∧ SnkOk none op Yk j ∧ Safe Yk j ∧ Yo w wr b y m Yk op F)) (fun i _ _ => rs.length - (intOf i).toNat)
    case atStart => exact ⟨0, rs.length, Y, by omega, rfl, rfl, unhide H0⟩
    case round =>
      obtain ⟨k, j, Yk, hkj, rfl, rfl, HI⟩ := hrel
      by_cases hlt : k < rs.length
      · have h9 : (k : Int) < (rs.length : Int) := by omega
        obtain ⟨j', rfl⟩ : ∃ j', j = j' + 1 := ⟨j - 1, by omega⟩
        obtain ⟨r, hx⟩ : ∃ r, rs[k]? = some r := ⟨_, List.getElem?_eq_getElem hlt⟩
        obtain ⟨m1, m2, m3, F1, n1, n2, n3, n4⟩ := unhide HI
        have hL := (unhide HL).ky n4 (unhide HV)
        obtain ⟨g, c', ra, rc, ev, c0, _, hrc, hrl⟩ := hL.get hx
        injection ev with ev1 _ ev3
        subst ev1 ev3
        have HC := hide (unhide HT wr j' Yk r (.slice ra r.length rc) F1 n3 ⟨ra, rc, rfl, hrc, hrl⟩ m2 m3)
        have HX := hide hx
        have HKJ := hide hkj
        have HR := hide (unhide HRun)
        clear hL hx m1 m2 m3 n3 hrc hkj
        go_upto_region 5 with (first | (go_at_call 160; refine (unhide HC).mono ?_; rintro _ w3 ⟨Y3, c3, rfl, hY3, hc3⟩; have HY3 := hide hY3; have HC3 := hide hc3; clear hY3 hc3))
        have hyo : Yo w w3 b y m Y3 op F := by
          obtain ⟨F3, q1, q2, q3, q4⟩ := unhide HY3
          exact ⟨F3, n1.trans q1 n4.size, fun k hk => q2 k (n2 k hk), q3, n4.trans q4 n1⟩
        have HYO := hide hyo
        clear hyo
        rcases unhide HC3 with ⟨rfl, p1, p2, p3⟩ | ⟨rfl, p1, p2, p3, p4⟩
        · have HP := hide (And.intro p1 (And.intro p2 p3))
          clear p1 p2 p3 HC3
          go_wp2
          go_roundw
          case rel => exact ⟨k + 1, j', Y3, by have := unhide HKJ; omega, by go_num, rfl, by rw [List.take_add_one, unhide HX]; exact (unhide HI).1.trans (unhide HP).1 (unhide HR), (unhide HP).2.1, (unhide HP).2.2, unhide HYO⟩
          case measure => simp [intOf]; omega
        · have hcd : (Yk.cd != 0) = true := by simpa using p1
          have HP := hide (And.intro p2 (And.intro p3 p4))
          have HCD := hide p1
          clear p1 p2 p3 p4 HC3
          go_wp2
          go_ret
          have e1 : Yk.cd = Y.cd := (unhide HI).1.cd
          refine ⟨Y3, Yk.cd, rfl, unhide HYO, .inr ⟨e1, by rw [← e1]; exact unhide HCD, k, by omega, ?_, (unhide HP).2.1, (unhide HP).2.2⟩⟩
          have := (unhide HI).1.trans (unhide HP).1 (unhide HR)
          rw [List.append_nil] at this
          exact this
      · have h9 : ¬ (k : Int) < (rs.length : Int) := by omega
        have hke : k = rs.length := by omega
        have hj : j = 0 := by omega
        subst hj
        have HKE := hide hke
        clear hke hkj
        go_wp2
        go_ret
        obtain ⟨m1, m2, m3, m4⟩ := unhide HI
        rw [unhide HKE, List.take_length] at m1
        exact ⟨Yk, 0, rfl, m4, .inl ⟨rfl, m1, m2⟩⟩
  | some i0 =>
    have hm : ∀ w : World, (method 297 114 (.agg #[.pointer (some ⟨y, 0, none⟩), .int .i64 (i0 : Nat)]) "Take").run Tryz.prog w = .ok (162, .agg #[.pointer (some ⟨y, 0, none⟩), .int .i64 (i0 : Nat)]) w := fun _ => by kernel_rfl
    have HT := hide hT
    change ∀ (w1 : World) (j : Nat) (Y1 : Yv) (r : List Val) (u : Value) (F1 : Nat → Prop), Yw w1 b y m Y1 op F1 → Rw w1 u r → SnkOk (some i0) op Y1 (j + 1) → Safe Y1 (j + 1) → Calls Tryz.prog 162 #[.agg #[.pointer (some ⟨y, 0, none⟩), .int .i64 (i0 : Nat)], u] w1 fun e w' => TakeP b y m (some i0) op Y1 j r F1 w1 e w' at HT
    clear hT
    show Calls Tryz.prog 39 #[.slice a rs.length c, .iface 114 (.agg #[.pointer (some ⟨y, 0, none⟩), .int .i64 (i0 : Nat)])] w _
    go_enter Tryz.func39, Tryz.ntmps39
    go_wp2_with fail
    go_loopw [10, 4] (fun i z wr => ∃ (k j : Nat) (Yk : Yv), k + j = rs.length ∧ i = .int .i64 (k : Int) ∧ z = .int .i64 0 ∧ Hid (Mv (some i0) (rs.take k) Y Yk ∧ SnkOk (some i0) op Yk j ∧ Safe Yk j ∧ Yo w wr b y m Yk op F)) (fun i _ _ => rs.length - (intOf i).toNat)
    case atStart => exact ⟨0, rs.length, Y, by omega, rfl, rfl, unhide H0⟩
    case round =>
      obtain ⟨k, j, Yk, hkj, rfl, rfl, HI⟩ := hrel
      by_cases hlt : k < rs.length
      · have h9 : (k : Int) < (rs.length : Int) := by omega
        obtain ⟨j', rfl⟩ : ∃ j', j = j' + 1 := ⟨j - 1, by omega⟩
        obtain ⟨r, hx⟩ : ∃ r, rs[k]? = some r := ⟨_, List.getElem?_eq_getElem hlt⟩
        obtain ⟨m1, m2, m3, F1, n1, n2, n3, n4⟩ := unhide HI
        have hL := (unhide HL).ky n4 (unhide HV)
        obtain ⟨g, c', ra, rc, ev, c0, _, hrc, hrl⟩ := hL.get hx
        injection ev with ev1 _ ev3
        subst ev1 ev3
        have HC := hide (unhide HT wr j' Yk r (.slice ra r.length rc) F1 n3 ⟨ra, rc, rfl, hrc, hrl⟩ m2 m3)
        have HX := hide hx
        have HKJ := hide hkj
        have HR := hide (unhide HRun)
        clear hL hx m1 m2 m3 n3 hrc hkj
        go_upto_region 5 with (first | (go_at_call 162; refine (unhide HC).mono ?_; rintro _ w3 ⟨Y3, c3, rfl, hY3, hc3⟩; have HY3 := hide hY3; have HC3 := hide hc3; clear hY3 hc3))
        have hyo : Yo w w3 b y m Y3 op F := by
          obtain ⟨F3, q1, q2, q3, q4⟩ := unhide HY3
          exact ⟨F3, n1.trans q1 n4.size, fun k hk => q2 k (n2 k hk), q3, n4.trans q4 n1⟩
        have HYO := hide hyo
        clear hyo
        rcases unhide HC3 with ⟨rfl, p1, p2, p3⟩ | ⟨rfl, p1, p2, p3, p4⟩
        · have HP := hide (And.intro p1 (And.intro p2 p3))
          clear p1 p2 p3 HC3
          go_wp2
          go_roundw
          case rel => exact ⟨k + 1, j', Y3, by have := unhide HKJ; omega, by go_num, rfl, by rw [List.take_add_one, unhide HX]; exact (unhide HI).1.trans (unhide HP).1 (unhide HR), (unhide HP).2.1, (unhide HP).2.2, unhide HYO⟩
          case measure => simp [intOf]; omega
        · have hcd : (Yk.cd != 0) = true := by simpa using p1
          have HP := hide (And.intro p2 (And.intro p3 p4))
          have HCD := hide p1
          clear p1 p2 p3 p4 HC3
          go_wp2
          go_ret
          have e1 : Yk.cd = Y.cd := (unhide HI).1.cd
          refine ⟨Y3, Yk.cd, rfl, unhide HYO, .inr ⟨e1, by rw [← e1]; exact unhide HCD, k, by omega, ?_, (unhide HP).2.1, (unhide HP).2.2⟩⟩
          have := (unhide HI).1.trans (unhide HP).1 (unhide HR)
          rw [List.append_nil] at this
          exact this
      · have h9 : ¬ (k : Int) < (rs.length : Int) := by omega
        have hke : k = rs.length := by omega
        have hj : j = 0 := by omega
        subst hj
        have HKE := hide hke
        clear hke hkj
        go_wp2
        go_ret
        obtain ⟨m1, m2, m3, m4⟩ := unhide HI
        rw [unhide HKE, List.take_length] at m1
        exact ⟨Yk, 0, rfl, m4, .inl ⟨rfl, m1, m2⟩⟩
end Go.Proofs.YtcbenpodohjbiaaGreat

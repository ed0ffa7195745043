import Derived.Test.YtcbenpodohjbiaaGreatSpW
import Derived.Test.YtcbenpodohjbiaaGreatSpD
import Derived.Test.YtcbenpodohjbiaaGreatSqK
import Derived.Test.YtcbenpodohjbiaaGreatSpK
set_option linter.unusedSimpArgs false
set_option linter.unusedVariables false
set_option maxRecDepth 100000
namespace Go.Proofs.YtcbenpodohjbiaaGreat
open Go.RowKit Go.Sort

/-- isWorkable (15). -/
theorem work_any (b : Int) (p : Option Addr) (w : World) :
    Calls Tryz.prog 15 #[.int .i64 b, .iface 24 (.pointer p), .iface 24 (.pointer p)] w fun e w' => e = .returned (.bool (decide (4 ≤ b) && decide (b ≤ 65536))) ∧ w' = w := by
  have q : ∀ w : World, (binOp .neq 46 (.iface 24 (.pointer p)) .nilIface).run Tryz.prog w = .ok (.bool true) w := fun _ => by kernel_rfl
  have q2 : ∀ w : World, (binOp .neq 48 (.iface 24 (.pointer p)) .nilIface).run Tryz.prog w = .ok (.bool true) w := fun _ => by kernel_rfl
  by_cases h : 4 ≤ b
  · have h1 : decide (4 ≤ b) = true := by simpa using h
    go_enter Tryz.func15, Tryz.ntmps15
    go_wp2
    go_ret
    exact ⟨by simp [h], rfl⟩
  · have h1 : decide (4 ≤ b) = false := by simpa using h
    go_enter Tryz.func15, Tryz.ntmps15
    go_wp2
    go_ret
    exact ⟨by simp [h], rfl⟩
/-- A yard of which nothing was asked. -/
def Yv.new (rf cd : Int) : Yv := ⟨0, 0, 0, 0, rf, cd, false, [], [], []⟩
/-- plain.New (5). -/
theorem pnew_any (rf cd : Int) (w : World) : Calls Tryz.prog 5 #[.int .i64 rf, .int .i64 cd] w fun e w' => e = .returned (.pointer (some ⟨w.heap.size, 0, none⟩)) ∧ Below w.heap.size w w' ∧ Py w' w.heap.size (Yv.new rf cd) none (fun k => k = w.heap.size) ∧ w'.heap.size = w.heap.size + 1 := by
  go_enter Tryz.func5, Tryz.ntmps5
  go_wp2
  go_ret
  refine ⟨rfl, below_alloc (Below.refl _ _) _, ⟨rfl, .slice none 0 0, .slice none 0 0, .slice none 0 0, [], ⟨⟨_, _, heap_alloc_new _ _⟩, fun i => by simp [go_sem], ?_, ?_, ?_, ?_, ?_, ?_, ?_, ?_, ?_, ?_, ?_⟩, ⟨Lst.nil _, fun g e => (by cases e), World.ownsRow_nil _ _ _ _, fun g e => (by cases e), rfl, World.ownsRow_nil _ _ _ _, fun g e => (by cases e), rfl, fun i u rs hu => by simp at hu, fun i j u u' g _ hu => by simp at hu⟩⟩, by simp⟩ <;> simp [go_sem, Yv.new]
/-- Stream (8). -/
theorem stream_any (b : Nat) (aR : Option Addr) (cR : Nat) (rs : List (List Val)) (w0 : Bs) (w : World) (hb : w0.Bel w) : Calls Tryz.prog 8 #[.pointer (some ⟨b, 0, none⟩), .slice aR rs.length cR] w fun e w' => e = .returned (.iface 66 (.pointer (some ⟨w.heap.size, 0, none⟩))) ∧ Below w.heap.size w w' ∧ Stm w0 w' w.heap.size b aR cR rs 0 ∧ w'.heap.size = w.heap.size + 1 := by
  go_enter Tryz.func8, Tryz.ntmps8
  go_wp2
  go_ret
  exact ⟨rfl, below_alloc (Below.refl _ _) _, ⟨⟨_, _, heap_alloc_new _ _⟩, fun i => by simp [go_sem], by simp [go_sem], by simp [go_sem], by simp [go_sem], hb.later (below_alloc (Below.refl _ w) _)⟩, by simp⟩
/-- yardOf (17). -/
theorem yardOf_any (b : Nat) (w : World) :
    Calls Tryz.prog 17 #[.iface 24 (.pointer (some ⟨b, 0, none⟩))] w fun e w' => e = .returned (.pointer (some ⟨w.heap.size + 1, 0, none⟩)) ∧ Sy w' (w.heap.size + 1) b w.heap.size [] ∧ Below w.heap.size w w' ∧ w'.heap.size = w.heap.size + 2 := by
  have hmm := @run_makeMap Tryz.prog
  go_enter Tryz.func17, Tryz.ntmps17
  go_wp2
  go_ret
  have e : w.heap.size + 1 = (w.alloc (.map #[] 0)).heap.size := by simp
  refine ⟨by simp, ⟨?_, ?_, ?_, #[], 0, ?_, ⟨rfl, fun x hx => by simp at hx, by simp⟩⟩, below_alloc (below_alloc (Below.refl _ _) _) _, by simp⟩
  · rw [e]; exact ⟨_, _, heap_alloc_new _ _⟩
  · rw [e]; simp [go_sem]
  · rw [e]; simp [go_sem]
  · rw [heap_alloc_old _ _ (by simp), heap_alloc_new]
/-- Refused (28). -/
theorem refused_any {F : Nat → Prop} {b : Nat} {Y : Yv} {op : Option Nat} {w : World} (h : Py w b Y op F) : Calls Tryz.prog 28 #[.pointer (some ⟨b, 0, none⟩)] w fun e w' => e = .returned (.bool Y.rd) ∧ w' = w := by
  obtain ⟨_, _, _, _, _, hB, _⟩ := h
  have c8 := hB.c8
  clear hB
  go_enter Tryz.func28, Tryz.ntmps28
  go_wp2
  go_ret
  exact ⟨rfl, rfl⟩
/-- mostAtOnce (64). -/
theorem mostAtOnce_any {w : World} {q y B : Nat} {bu : Int} {vS : Value} (h : Qx w q y B bu vS) (h1 : 4 ≤ bu) (h2 : bu ≤ 65536) : Calls Tryz.prog 64 #[.pointer (some ⟨q, 0, none⟩)] w fun e w' => e = .returned (.int .i64 (bu - 1)) ∧ w' = w := by
  have c3 := h.c3
  have ew : IntKind.i64.wrap (bu - 1) = bu - 1 := IntWalk.i64_in _ (by omega)
  clear h
  go_enter Tryz.func64, Tryz.ntmps64
  go_wp2
  go_ret
  exact ⟨rfl, rfl⟩
/-- inOrder (18). -/
theorem inOrder_any (aK : Option Addr) (n c : Nat) (w : World) : Calls Tryz.prog 18 #[.slice aK n c] w fun e w' => e = .returned (.func (.func 32) #[] #[.pointer (some ⟨w.heap.size, 0, none⟩)]) ∧ w'.cell? ⟨w.heap.size, 0, none⟩ = some (.slice aK n c) ∧ Tg 23 w' w.heap.size ∧ Below w.heap.size w w' ∧ w'.heap.size = w.heap.size + 1 := by
  go_enter Tryz.func18, Tryz.ntmps18
  go_wp2
  go_ret
  exact ⟨rfl, by simp [go_sem], ⟨_, _, heap_alloc_new _ _⟩, below_alloc (Below.refl _ _) _, by simp⟩
end Go.Proofs.YtcbenpodohjbiaaGreat
set_option linter.unusedSimpArgs false
set_option linter.unusedVariables false
set_option maxRecDepth 100000
namespace Go.Proofs.YtcbenpodohjbiaaGreat
open Go.RowKit Go.Sort

set_option maxHeartbeats 2000000 in
/-- Left (27), where no run is there. -/
theorem left_any {F : Nat → Prop} {b : Nat} {Y : Yv} {op : Option Nat} {w : World} (h : Py w b Y op F) (hn : Y.there.length ≤ 1048576) (hf : ∀ t ∈ Y.there, t = false) : Calls Tryz.prog 27 #[.pointer (some ⟨b, 0, none⟩)] w fun e w' => e = .returned (.int .i64 0) ∧ w' = w := by
  obtain ⟨_, vO, vR, vT, us, hB, hl⟩ := h
  obtain ⟨aT, cT, rfl⟩ := own_form hl.t
  have c10 := hB.c10
  have HL := hide hl
  have HF := hide hf
  clear hB hl hf
  go_enter Tryz.func27, Tryz.ntmps27
  go_wp2_with fail
  go_loopw [3, 4] (fun s3 s4 wr => s3 = .int .i64 0 ∧ ∃ k : Nat, k ≤ Y.there.length ∧ s4 = .int .i64 (k : Int) ∧ wr = w) (fun _ s4 _ => Y.there.length - (intOf s4).toNat)
  case atStart => exact ⟨rfl, 0, Nat.zero_le _, rfl, rfl⟩
  case round =>
    obtain ⟨rfl, k, hk, rfl, rfl⟩ := hrel
    by_cases hlt : k < Y.there.length
    · have h9 : (k : Int) < (Y.there.length : Int) := by omega
      obtain ⟨t, hx⟩ : ∃ t, Y.there[k]? = some t := ⟨_, List.getElem?_eq_getElem hlt⟩
      have ht := unhide HF t (List.mem_of_getElem? hx)
      subst ht
      obtain ⟨gT, cT', ev, c1, _, _⟩ := (unhide HL).tx hx
      injection ev with ev1 _ ev3
      subst ev1 ev3
      clear hx
      go_wp2
      go_roundw
      case rel => exact ⟨rfl, k + 1, by omega, by go_num, trivial⟩
      case measure => simp [intOf]; omega
    · have h9 : ¬ (k : Int) < (Y.there.length : Int) := by omega
      go_wp2
      go_ret
      exact ⟨rfl, rfl⟩
/-- budgetOK (23). -/
theorem budgetOK_any (n : Int) (w : World) : Calls Tryz.prog 23 #[.int .i64 n] w fun e w' => e = .returned (.bool (decide (4 ≤ n) && decide (n ≤ 65536))) ∧ w' = w := by
  by_cases h : 4 ≤ n
  · have h1 : decide (4 ≤ n) = true := by simpa using h
    go_enter Tryz.func23, Tryz.ntmps23
    go_wp2
    go_ret
    exact ⟨by simp [h], rfl⟩
  · have h1 : decide (4 ≤ n) = false := by simpa using h
    go_enter Tryz.func23, Tryz.ntmps23
    go_wp2
    go_ret
    exact ⟨by simp [h], rfl⟩
set_option maxHeartbeats 2000000 in
/-- PutsOf (11). -/
theorem putsOf_any (n d : Nat) (w : World) (hn : n ≤ 1048576) (hd : 3 ≤ d) (hd2 : (d : Int) + 1 ≤ 9223372036854775807) : Calls Tryz.prog 11 #[.int .i64 (n : Int), .int .i64 ((d : Int) + 1)] w fun e w' => (∃ k : Nat, e = .returned (.int .i64 ((n * k : Nat) : Int)) ∧ n ≤ d ^ (k + 1) ∧ k ≤ 20 ∧ (k = 0 ∨ d ^ k < n)) ∧ w' = w := by
  have ew : IntKind.i64.wrap ((d : Int) + 1 - 1) = (d : Int) := by rw [IntWalk.i64_in _ (by omega)]; omega
  have es : (d : Int) + 1 - 1 = (d : Int) := by omega
  go_enter Tryz.func11, Tryz.ntmps11
  go_wp2_with fail
  go_loopw [5, 6] (fun s5 s6 wr => ∃ k : Nat, s5 = .int .i64 (k : Int) ∧ s6 = .int .i64 ((d ^ (k + 1) : Nat) : Int) ∧ k ≤ 20 ∧ (k = 0 ∨ d ^ k < n) ∧ wr = w) (fun s5 _ _ => 20 - (intOf s5).toNat)
  case atStart => exact ⟨0, rfl, by simp, by omega, .inl rfl, rfl⟩
  case round =>
    obtain ⟨k, rfl, rfl, hk, hkn, rfl⟩ := hrel
    have HK := hide hkn
    by_cases hlt : d ^ (k + 1) < n
    · have h9 : ((d ^ (k + 1) : Nat) : Int) < (n : Int) := by omega
      have h3k : 3 ^ (k + 1) ≤ d ^ (k + 1) := Nat.pow_le_pow_left hd _
      have hk2 : k < 20 := by
        rcases Nat.lt_or_ge k 20 with q | q
        · exact q
        · exfalso
          have : 3 ^ 21 ≤ 3 ^ (k + 1) := Nat.pow_le_pow_right (by omega) (by omega)
          have e : (3 : Nat) ^ 21 = 10460353203 := by decide
          omega
      have hdn : d < n := by
        have : d ^ 1 ≤ d ^ (k + 1) := Nat.pow_le_pow_right (by omega) (by omega)
        simp at this
        omega
      have hmul : d ^ (k + 1) * d = d ^ (k + 1 + 1) := (Nat.pow_succ _ _).symm
      have hbig : d ^ (k + 1 + 1) ≤ 1048576 * 1048576 := by rw [← hmul]; exact Nat.mul_le_mul (by omega) (by omega)
      have em : ((d ^ (k + 1) : Nat) : Int) * (d : Int) = ((d ^ (k + 1 + 1) : Nat) : Int) := by rw [← hmul]; push_cast; rfl
      have ewm : IntKind.i64.wrap (((d ^ (k + 1) : Nat) : Int) * (d : Int)) = ((d ^ (k + 1 + 1) : Nat) : Int) := by rw [em, IntWalk.i64_in _ (by omega)]
      have HLT := hide hlt
      generalize hP : d ^ (k + 1) = P at *
      generalize hQ : d ^ (k + 1 + 1) = Q at *
      have HP := hide hP
      have HQ := hide hQ
      clear em hmul h3k hlt hkn hP hQ
      go_wp2
      go_roundw
      case rel => exact ⟨k + 1, by go_num, by rw [unhide HQ], by omega, .inr (by rw [unhide HP]; exact unhide HLT), trivial⟩
      case measure => simp [intOf]; omega
    · have h9 : ¬ ((d ^ (k + 1) : Nat) : Int) < (n : Int) := by omega
      have HLT := hide hlt
      have hbn : n * k ≤ 1048576 * 20 := Nat.mul_le_mul hn hk
      have em : (n : Int) * (k : Int) = ((n * k : Nat) : Int) := by push_cast; rfl
      have ewm : IntKind.i64.wrap ((n : Int) * (k : Int)) = ((n * k : Nat) : Int) := by rw [em, IntWalk.i64_in _ (by omega)]
      generalize hP : d ^ (k + 1) = P at *
      have HP := hide hP
      clear em hlt hkn hP
      go_wp2
      go_ret
      have q := unhide HLT
      exact ⟨⟨k, rfl, by rw [unhide HP]; omega, hk, unhide HK⟩, rfl⟩
end Go.Proofs.YtcbenpodohjbiaaGreat
set_option linter.unusedSimpArgs false
set_option linter.unusedVariables false
set_option maxRecDepth 100000
namespace Go.Proofs.YtcbenpodohjbiaaGreat
open Go.RowKit Go.Sort

/-- What a refusal answers. -/
def codeV (n : Int) : Int := 100 + (if n < 0 then -(n + 1) else n) % 5
theorem codeV_ne (n : Int) : 100 ≤ codeV n ∧ codeV n ≤ 104 := by
  unfold codeV
  have h0 : 0 ≤ (if n < 0 then -(n + 1) else n) := by split <;> omega
  generalize (if n < 0 then -(n + 1) else n) = x at h0
  omega
set_option maxHeartbeats 2000000 in
/-- code (6). -/
theorem code_any (n : Int) (w : World) (hn : -9223372036854775808 ≤ n ∧ n ≤ 9223372036854775807) : Calls Tryz.prog 6 #[.int .i64 n] w fun e w' => e = .returned (.int .i64 (codeV n)) ∧ w' = w := by
  have hc := codeV_ne n
  by_cases h : n < 0
  · have e1 : IntKind.i64.wrap (n + 1) = n + 1 := IntWalk.i64_in _ (by omega)
    have e2 : IntKind.i64.wrap (-(n + 1)) = -(n + 1) := IntWalk.i64_in _ (by omega)
    obtain ⟨x, hx⟩ : ∃ x, -(n + 1) = x := ⟨_, rfl⟩
    have hcv : codeV n = 100 + x % 5 := by unfold codeV; rw [if_pos h, hx]
    have hb : 0 ≤ x % 5 ∧ x % 5 < 5 := by
      rw [hcv] at hc
      omega
    have e3 : IntKind.i64.wrap (x % 5) = x % 5 := IntWalk.i64_in _ (by omega)
    have e4 : IntKind.i64.wrap (100 + x % 5) = 100 + x % 5 := IntWalk.i64_in _ (by omega)
    rw [hx] at e2
    have HCV := hide hcv
    have HX := hide hx
    rw [hcv]
    clear hc hcv
    go_enter Tryz.func6, Tryz.ntmps6
    go_wp2
    go_ret
    exact ⟨rfl, rfl⟩
  · have hcv : codeV n = 100 + n % 5 := by unfold codeV; rw [if_neg h]
    have hb : 0 ≤ n % 5 ∧ n % 5 < 5 := by
      rw [hcv] at hc
      omega
    have e3 : IntKind.i64.wrap (n % 5) = n % 5 := IntWalk.i64_in _ (by omega)
    have e4 : IntKind.i64.wrap (100 + n % 5) = 100 + n % 5 := IntWalk.i64_in _ (by omega)
    rw [hcv]
    clear hc hcv
    go_enter Tryz.func6, Tryz.ntmps6
    go_wp2
    go_ret
    exact ⟨rfl, rfl⟩
end Go.Proofs.YtcbenpodohjbiaaGreat
set_option linter.unusedSimpArgs false
set_option linter.unusedVariables false
set_option maxRecDepth 100000
namespace Go.Proofs.YtcbenpodohjbiaaGreat
open Go.RowKit Go.Sort

theorem OwnI.cap_le {w : World} {base cap : Nat} {a : Option Addr} {L : List Int} (h : OwnI w base (.slice a L.length cap) L) : L.length ≤ cap := by
  rcases h.2 with ⟨e, h0⟩ | ⟨g, cap', cur, e, q1, q2, q3, _⟩
  · injection e with e1 e2 e3; omega
  · injection e with e1 e2 e3; omega
/-- What keys keep: none below 0, none twice. -/
def keysB (ks : List (Int × Bool)) : Bool := !((ks.map Prod.fst).any fun x => decide (x < 0)) && decide (ks.map Prod.fst).Nodup
set_option maxHeartbeats 2000000 in
/-- keysOK (22), of the document. -/
theorem keysOK_any (ks : List (Int × Bool)) (a : Option Addr) (c : Nat) (w : World) (hl : ks.length ≤ 1048576) (ha : KeysAt w a ks) :
    Calls Tryz.prog 22 #[.slice a ks.length c] w fun r w' => r = .returned (.bool (keysB ks)) ∧ Below w.heap.size w w' := by
  obtain ⟨kc, hkc⟩ : ∃ kc, ks.map Prod.fst = kc := ⟨_, rfl⟩
  have hkl : kc.length ≤ 1048576 := by rw [← hkc]; simpa using hl
  obtain ⟨R, hR⟩ : ∃ R, R = keysB ks := ⟨_, rfl⟩
  have HK := hide (fun (W : World) (hW : Below w.heap.size w W) => keyCols_any ks a c W hl (ha.later hW))
  rw [← hR]
  unfold keysB at hR
  rw [hkc] at hR HK
  have HKL := hide hkl
  have HR := hide hR
  have HB : Hid (Below w.heap.size w w) := hide (Below.refl _ _)
  clear ha hR hkl hkc hl
  cases hlk : kc.any (fun x => decide (x < 0))
  case true =>
    have HR2 := unhide HR
    rw [hlk] at HR2
    obtain rfl : R = false := HR2
    go_enter Tryz.func22, Tryz.ntmps22
    go_wp2_with (first
      | (go_at_call 44; refine (unhide HK _ (unhide HB)).mono ?_; rintro r w1 ⟨a1, c1, rfl, hO1, hb1⟩; have HL1 := hide (low_any kc a1 c1 w1 (by have := unhide HKL; omega) hO1.ints); rw [hlk] at HL1)
      | (go_at_call 43; refine (unhide HL1).mono ?_; rintro r w2 ⟨rfl, hb2⟩))
    go_ret
    exact ⟨rfl, below_step hb1 hb2⟩
  case false =>
    have HR2 := unhide HR
    rw [hlk] at HR2
    have HR3 : Hid (R = decide kc.Nodup) := by show _ = _; simpa using HR2
    clear HR HR2
    go_enter Tryz.func22, Tryz.ntmps22
    go_wp2_with (first
      | (go_at_call 44; refine (unhide HK _ (below_step hb1 hb2)).mono ?_; rintro r w3 ⟨a3, c3, rfl, hO3, hb3⟩; have HU3 := hide (unlikeR_any kc a3 c3 w3 (by have := unhide HKL; omega) hO3.cap_le hO3.ints); rw [← unhide HR3] at HU3)
      | (go_at_call 44; refine (unhide HK _ (unhide HB)).mono ?_; rintro r w1 ⟨a1, c1, rfl, hO1, hb1⟩; have HL1 := hide (low_any kc a1 c1 w1 (by have := unhide HKL; omega) hO1.ints); rw [hlk] at HL1)
      | (go_at_call 43; refine (unhide HL1).mono ?_; rintro r w2 ⟨rfl, hb2⟩)
      | (go_at_call 45; refine (unhide HU3).mono ?_; rintro r w4 ⟨rfl, hb4⟩))
    go_ret
    exact ⟨rfl, below_step (below_step (below_step hb1 hb2) hb3) hb4⟩
end Go.Proofs.YtcbenpodohjbiaaGreat
set_option linter.unusedSimpArgs false
set_option linter.unusedVariables false
set_option maxRecDepth 100000
namespace Go.Proofs.YtcbenpodohjbiaaGreat
open Go.RowKit Go.Sort

def okB (ks : List (Int × Bool)) (bu : Int) : Bool := keysB ks && (decide (4 ≤ bu) && decide (bu ≤ 65536))
theorem keysB_nn {ks : List (Int × Bool)} (h : keysB ks = true) : ∀ k ∈ ks, 0 ≤ k.1 := fun k hk => by
  unfold keysB at h
  simp only [Bool.and_eq_true, Bool.not_eq_true', List.any_eq_false] at h
  have := h.1 k.1 (List.mem_map.2 ⟨k, hk, rfl⟩)
  simp at this
  omega
def kc2 (k : Int × Bool) : List Value := [.int .i64 k.1, .bool k.2]
theorem kflat_len (L : List (Int × Bool)) : (L.flatMap kc2).length = L.length * 2 := by
  induction L with
  | nil => rfl
  | cons z L ih => rw [List.flatMap_cons, List.length_append, ih]; simp [kc2]; omega
theorem kflat_at : ∀ (L : List (Int × Bool)) (i j : Nat) (x : Int × Bool), L[i]? = some x → j < 2 → (L.flatMap kc2)[i * 2 + j]? = (kc2 x)[j]?
  | [], i, j, x, h, _ => by simp at h
  | z :: L, 0, j, x, h, hj => by
    simp at h
    subst h
    rw [List.flatMap_cons, List.getElem?_append_left (by simp [kc2]; omega)]
    simp
  | z :: L, i + 1, j, x, h, hj => by
    have ih := kflat_at L i j x (by simpa using h) hj
    rw [List.flatMap_cons, List.getElem?_append_right (by simp [kc2]; omega), ← ih]
    congr 1
    simp [kc2]
    omega
/-- Keys in a list of the call's own. -/
def OwnK (w : World) (base : Nat) (v : Value) (ks : List (Int × Bool)) : Prop := w.ownsRow base 58 2 v ks.length (ks.flatMap kc2)
theorem OwnK.later {w w1 : World} {base : Nat} {v : Value} {ks : List (Int × Bool)} (h : OwnK w base v ks) (hb : Below w.heap.size w w1) : OwnK w1 base v ks := own_later h hb
theorem OwnK.keys {w : World} {base : Nat} {v : Value} {ks : List (Int × Bool)} (h : OwnK w base v ks) : ∃ a c, v = .slice a ks.length c ∧ KeysAt w a ks ∧ ∀ b off, a = some ⟨b, off, none⟩ → ks ≠ [] → Tg 58 w b := by
  have h' := h
  unfold OwnK at h'
  rcases h'.2 with ⟨e, h0⟩ | ⟨g, cap, cur, e, _⟩
  · have : ks = [] := List.eq_nil_of_length_eq_zero h0
    subst this
    exact ⟨none, 0, e, .inl rfl, fun b off q => (by cases q)⟩
  · subst e
    refine ⟨_, _, rfl, .inr ⟨g, 0, rfl, fun i x hx => ?_⟩, fun b off q _ => ?_⟩
    · have hi := (List.getElem?_eq_some_iff.1 hx).1
      constructor
      · rw [Nat.zero_add, World.ownsRow.cellAt h' (i * 2) (by omega)]; exact kflat_at ks i 0 x hx (by omega)
      · rw [Nat.zero_add, World.ownsRow.cellAt h' (i * 2 + 1) (by omega)]; exact kflat_at ks i 1 x hx (by omega)
    · injection q with q
      injection q with q
      subst q
      exact own_tg h' rfl
theorem info58 : (Tryz.prog.info? 58).map (fun i => (i.zero, i.size, i.bytes)) = some (some (.agg #[.int .i64 0, .bool false]), 2, 16) := by kernel_rfl
/-- append of keys that lie elsewhere. -/
theorem wpList_push_keys {ops : Array Oper} {rest : List Oper} {o : Oper} {a : Act} {Q : Exit → Act → World → Prop} (w : World) (hgd : o.guard = none) (s x : Operand) (ho : o.op = .call { callee := .builtin .append, args := #[s, x], argTypes := #[23, 23] })
    (base : Nat) (v : Value) (L K : List (Int × Bool)) (ad : Addr) (c : Nat) (hs : a.eval s = v) (hown : OwnK w base v L) (hx : a.eval x = .slice (some ad) K.length c) (hK : KeysAt w (some ad) K) (hl : L.length + K.length ≤ 4000000) (hbase : base ≤ w.heap.size)
    (h : ∀ v' w', OwnK w' base v' (L ++ K) → Below base w w' → wpList Tryz.prog ops Q rest (a.put o.dst v') w') : wpList Tryz.prog ops Q (o :: rest) a w := by
  obtain ⟨i4, hi4, z40, z41, z42⟩ := info_parts info58
  have hnews : ∀ j u, (K.flatMap kc2)[j]? = some u → w.cell? (ad.add j) = some u := by
    rcases hK with hK | ⟨b, off, e, hK⟩
    · subst hK
      intro j u hj
      simp at hj
    · injection e with e
      subst e
      intro j u hj
      have hjl : j < K.length * 2 := by rw [← kflat_len]; exact (List.getElem?_eq_some_iff.1 hj).1
      have hk : K[j / 2]? = some K[j / 2] := List.getElem?_eq_getElem (by omega)
      have e1 := kflat_at K (j / 2) (j % 2) _ hk (by omega)
      rw [show j / 2 * 2 + j % 2 = j by omega, hj] at e1
      obtain ⟨c0, c1⟩ := hK (j / 2) _ hk
      rw [Addr.add_lit]
      rcases Nat.mod_two_eq_zero_or_one j with q | q
      · rw [q] at e1
        simp [kc2] at e1
        rw [e1, show off + j = off + j / 2 * 2 by omega]
        exact c0
      · rw [q] at e1
        simp [kc2] at e1
        rw [e1, show off + j = off + j / 2 * 2 + 1 by omega]
        exact c1
  have hone : ∀ u ∈ K.flatMap kc2, u.oneCell' = true := fun u hu => by
    obtain ⟨k, _, hk⟩ := List.mem_flatMap.1 hu
    simp [kc2] at hk
    rcases hk with rfl | rfl <;> rfl
  refine wpList_append_own_at w hgd s x 23 ho base 58 i4 (.agg #[.int .i64 0, .bool false]) 2 16 Tryz.underlying23 hi4 z40 z41 z42 rfl (by decide) v L.length (L.flatMap kc2) hs hown ad K.length c (K.flatMap kc2) hx (kflat_len K) hnews hone (by unfold maxLen; omega) (by omega) hbase ?_
  intro v' w' h1 h2 _ _
  refine h v' w' ?_ (grown_below h2 hbase (fun g e => (World.ownsRow.lt hown g e).1))
  unfold OwnK
  rw [List.length_append, List.flatMap_append]
  exact h1
theorem ownK_empty (w : World) (base : Nat) (hb : base ≤ w.heap.size) : OwnK (w.alloc (.cells #[] 58)) base (.slice (some ⟨w.heap.size, 0, none⟩) 0 0) [] := World.ownsRow_lit (base := base) (e := 58) (size := 2) w #[] 0 hb (by unfold maxLen; omega) rfl
end Go.Proofs.YtcbenpodohjbiaaGreat
set_option linter.unusedSimpArgs false
set_option linter.unusedVariables false
namespace Go.Proofs.YtcbenpodohjbiaaGreat

/-! How the document sorts: pure. -/
def widR (rs : List (List Val)) : Nat := rs.foldl (fun a r => max a r.length) 0
theorem widR_snoc (l : List (List Val)) (r : List Val) : widR (l ++ [r]) = max (widR l) r.length := by simp [widR, List.foldl_append]
theorem fold_ge : ∀ (rs : List (List Val)) (a : Nat), a ≤ rs.foldl (fun a r => max a r.length) a ∧ (∀ r ∈ rs, r.length ≤ rs.foldl (fun a r => max a r.length) a) ∧ ∀ M, a ≤ M → (∀ r ∈ rs, r.length ≤ M) → rs.foldl (fun a r => max a r.length) a ≤ M
  | [], a => ⟨Nat.le_refl _, fun r hr => by simp at hr, fun M h _ => h⟩
  | x :: rs, a => by
    obtain ⟨h1, h2, h3⟩ := fold_ge rs (max a x.length)
    simp only [List.foldl_cons]
    refine ⟨by omega, fun r hr => ?_, fun M hM hr => h3 M (by have := hr x (by simp); omega) (fun r hr' => hr r (by simp [hr']))⟩
    rcases List.mem_cons.1 hr with q | q
    · subst q; omega
    · exact h2 r q
theorem widR_le {rs : List (List Val)} : ∀ r ∈ rs, r.length ≤ widR rs := (fold_ge rs 0).2.1
theorem widR_max {rs : List (List Val)} {M : Nat} (h : ∀ r ∈ rs, r.length ≤ M) : widR rs ≤ M := (fold_ge rs 0).2.2 M (Nat.zero_le _) h
def padR (n : Nat) (x : List Val) : List Val := x ++ List.replicate (n - x.length) Val.null
theorem padR_len {n : Nat} {x : List Val} (h : x.length ≤ n) : (padR n x).length = n := by unfold padR; rw [List.length_append, List.length_replicate]; omega
theorem padR_getD (n : Nat) (x : List Val) (i : Nat) : (padR n x).getD i .null = x.getD i .null := by
  unfold padR
  rw [List.getD_eq_getElem?_getD, List.getD_eq_getElem?_getD]
  by_cases h : i < x.length
  · rw [List.getElem?_append_left h]
  · rw [List.getElem?_append_right (by omega), List.getElem?_replicate, List.getElem?_eq_none (l := x) (by omega)]
    split <;> rfl
theorem padR_at {n : Nat} {x : List Val} {i : Nat} (h : i < n) (hx : x.length ≤ n) : (padR n x)[i]? = some (x.getD i .null) := by
  have h1 := padR_getD n x i
  have h2 := padR_len hx
  rw [← h1, List.getD_eq_getElem?_getD, List.getElem?_eq_getElem (by omega)]
  rfl
theorem keyV_pad (n : Nat) (k : Int × Bool) (x y : List Val) : keyV k (padR n x) (padR n y) = keyV k x y := by
  unfold keyV
  rw [padR_getD, padR_getD]
theorem keysV_pad (n : Nat) : ∀ (ks : List (Int × Bool)) (x y : List Val), keysV ks (padR n x) (padR n y) = keysV ks x y
  | [], _, _ => rfl
  | k :: ks, x, y => by
    simp only [keysV]
    rw [keyV_pad, keysV_pad n ks]
def hereK (ks : List (Int × Bool)) (n : Nat) : List (Int × Bool) := ks.filter fun k => decide (k.1 < (n : Int))
theorem hereK_snoc (ks : List (Int × Bool)) (k : Int × Bool) (n : Nat) : hereK (ks ++ [k]) n = hereK ks n ++ if k.1 < (n : Int) then [k] else [] := by
  unfold hereK
  rw [List.filter_append]
  congr 1
  by_cases h : k.1 < (n : Int)
  · rw [if_pos h]; simp [h]
  · rw [if_neg h]; simp [h]
theorem keyV_out {n : Nat} {k : Int × Bool} {x y : List Val} (hk : 0 ≤ k.1) (h : ¬ k.1 < (n : Int)) (hx : x.length ≤ n) (hy : y.length ≤ n) : keyV k x y = 0 := by
  have e1 : x.getD k.1.toNat .null = .null := by rw [List.getD_eq_getElem?_getD, List.getElem?_eq_none (by omega)]; rfl
  have e2 : y.getD k.1.toNat .null = .null := by rw [List.getD_eq_getElem?_getD, List.getElem?_eq_none (by omega)]; rfl
  unfold keyV
  rw [e1, e2, ord_self]
  simp
theorem keysV_here {n : Nat} {x y : List Val} (hx : x.length ≤ n) (hy : y.length ≤ n) : ∀ (ks : List (Int × Bool)), (∀ k ∈ ks, 0 ≤ k.1) → keysV (hereK ks n) x y = keysV ks x y
  | [], _ => rfl
  | k :: ks, h => by
    have ih := keysV_here hx hy ks (fun z hz => h z (by simp [hz]))
    unfold hereK at ih ⊢
    by_cases hk : k.1 < (n : Int)
    · rw [List.filter_cons_of_pos (by simpa using hk)]
      simp only [keysV]
      rw [ih]
    · rw [List.filter_cons_of_neg (by simpa using hk), ih]
      simp only [keysV]
      rw [if_pos (keyV_out (h k (by simp)) hk hx hy)]
/-- A row is put at its place among those that are sorted. -/
theorem ins_srt {ks : List (Int × Bool)} {pre mid : List (List Val)} {x : List Val} (hs : (pre ++ mid).Pairwise fun a b => ordG ks a b ≤ 0) (hm : ∀ z ∈ mid, keysV ks x z < 0) (hr : ∀ p ∈ pre, rowsV p x ≤ 0) (hl : ∀ q, pre.getLast? = some q → ¬ keysV ks x q < 0) : (pre ++ x :: mid).Pairwise fun a b => ordG ks a b ≤ 0 := by
  rw [List.pairwise_append] at hs ⊢
  obtain ⟨s1, s2, s3⟩ := hs
  have hxm : ∀ z ∈ mid, ordG ks x z ≤ 0 := fun z hz => by
    have := hm z hz
    unfold ordG
    rw [if_neg (by omega)]
    omega
  have hpx : ∀ p ∈ pre, ordG ks p x ≤ 0 := fun p hp => by
    obtain ⟨q, hq⟩ : ∃ q, pre.getLast? = some q := by
      cases hg : pre.getLast? with
      | none => rw [List.getLast?_eq_none_iff] at hg; rw [hg] at hp; simp at hp
      | some q => exact ⟨q, rfl⟩
    have hqm : q ∈ pre := List.mem_of_getLast? hq
    have h1 := hl q hq
    have hqx : ordG ks q x ≤ 0 := by
      have ha := keysV_anti ks q x
      unfold ordG
      by_cases e : keysV ks q x = 0
      · rw [if_pos e]; exact hr q hqm
      · rw [if_neg e]; omega
    have hpq : ordG ks p q ≤ 0 := by
      obtain ⟨l, hl⟩ := List.getLast?_eq_some_iff.1 hq
      rw [hl] at hp s1
      rcases List.mem_append.1 hp with z | z
      · exact (List.pairwise_append.1 s1).2.2 p z q (by simp)
      · simp at z; subst z; rw [ordG_self]; omega
    exact ordG_le ks _ _ _ hpq hqx
  refine ⟨s1, List.pairwise_cons.2 ⟨hxm, s2⟩, fun a ha b hb => ?_⟩
  rcases List.mem_cons.1 hb with q | q
  · subst q; exact hpx a ha
  · exact s3 a ha b q
end Go.Proofs.YtcbenpodohjbiaaGreat
set_option linter.unusedSimpArgs false
set_option linter.unusedVariables false
set_option maxRecDepth 100000
namespace Go.Proofs.YtcbenpodohjbiaaGreat
open Go.RowKit Go.Sort

theorem vb_tg {W : World} {b : Nat} (h : Vb W b) : Tg 73 W b := h
/-- What Sorted answers is a list of rows that nothing changes. -/
theorem ownR_lst {w : World} {base : Nat} {v : Value} {L : List El} (h : OwnR w base v L) (hr : ∀ x ∈ L, RowV w v.ownBlock x ∧ x.r.length ≤ maxLen) (hl : ∀ x ∈ L, x.r.length ≤ 1048576) : Lst w v (L.map El.r) := by
  refine ⟨L.map El.v, by simp, ?_, fun i u r hu hr' => ?_⟩
  · rw [List.length_map]
    refine ⟨h.1, h.2.imp id ?_⟩
    rintro ⟨g, cap, cur, q1, q2, q3⟩
    exact ⟨g, cap, cur, q1, Nat.zero_le _, q3⟩
  · rw [List.getElem?_map] at hu hr'
    cases hx : L[i]? with
    | none => rw [hx] at hu; cases hu
    | some x =>
      rw [hx] at hu hr'
      injection hu with hu
      injection hr' with hr'
      subst hu hr'
      have hm := List.mem_of_getElem? hx
      obtain ⟨⟨a, c, e, h1, _, h2⟩, _⟩ := hr x hm
      refine ⟨a, c, e, ?_, hl x hm⟩
      by_cases hne : x.r = []
      · exact .inl hne
      · rcases h1 with h1 | ⟨b, off, ea, h1⟩
        · exact .inl h1
        · exact .inr ⟨b, off, ea, vb_tg (h2 b off ea hne), h1⟩
theorem Lst.rows {w : World} {a : Option Addr} {n c : Nat} {rs : List (List Val)} (h : Lst w (.slice a n c) rs) : RowsT w a rs := by
  by_cases e : rs = []
  · exact .inl e
  · right
    obtain ⟨r0, hr0⟩ : ∃ r0, rs[0]? = some r0 := by
      cases rs with
      | nil => exact absurd rfl e
      | cons r0 rs => exact ⟨r0, rfl⟩
    obtain ⟨g, c', a', k', e', _⟩ := h.get hr0
    injection e' with e1 _ e3
    subst e1
    refine ⟨g, 0, rfl, fun i r hr => ?_⟩
    obtain ⟨g', c', a', k', e', h1, _, h2, h3⟩ := h.get hr
    injection e' with e1 _ e3
    injection e1 with e1
    injection e1 with e1
    subst e1
    exact ⟨a', k', by rw [Nat.zero_add]; exact h1, h2.at⟩
theorem Lst.set {w : World} {g N c j : Nat} {rs : List (List Val)} {u : Value} {r : List Val} (h : Lst w (.slice (some ⟨g, 0, none⟩) N c) rs) (hu : Rw w u r) : Lst (w.setCell ⟨g, j, none⟩ u) (.slice (some ⟨g, 0, none⟩) N c) (rs.set j r) ∧ Ky (fun k => k = g) w (w.setCell ⟨g, j, none⟩ u) := by
  obtain ⟨us, h1, h2, h3⟩ := h
  have hN : N = rs.length := by
    rcases h2.2 with ⟨e, _⟩ | ⟨g', cap', cur, e, _⟩
    · cases e
    · injection e
  subst hN
  have tg : Tg 70 w g := own_tg h2 rfl
  have hk : Ky (fun k => k = g) w (w.setCell ⟨g, j, none⟩ u) := (Ky.refl (fun k => k = g) w).set (F := fun k => k = g) rfl tg (by decide) _ _
  refine ⟨⟨us.set j u, by rw [List.length_set, List.length_set]; exact h1, ?_, fun i y q hy hq => ?_⟩, hk⟩
  · rw [List.length_set]
    exact (World.ownsRow.stored h2 j u).1
  · by_cases e : j = i
    · subst e
      rw [List.getElem?_set] at hy hq
      rw [if_pos rfl] at hy hq
      split at hy
      · split at hq
        · injection hy with hy
          injection hq with hq
          subst hy hq
          exact hu.ky hk
        · cases hq
      · cases hy
    · rw [List.getElem?_set_ne e] at hy hq
      exact (h3 i y q hy hq).ky hk
/-- A row as it is filled: what is done up to k, nulls behind it. -/
def FilN (w wr : World) (ys : List Val) (k : Nat) : Prop := OwnV wr w.heap.size (.slice (some ⟨w.heap.size, 0, none⟩) ys.length ys.length) (ys.take k ++ List.replicate (ys.length - k) Val.null) ∧ Below w.heap.size w wr
theorem FilN.start (w : World) (ys : List Val) (hm : ys.length ≤ 1048576) : FilN w (w.alloc (.cells (madeCells (Value.cells (.agg #[.int .i64 0, .int .i64 0, .string ⟨#[]⟩])) (ys.length * 3)) 73)) ys 0 := by
  refine ⟨?_, below_alloc (Below.refl _ _) _⟩
  rw [List.take_zero, List.nil_append, Nat.sub_zero]
  exact own_made w _ _ (Nat.le_refl _) hm
theorem FilN.next {ys : List Val} {k : Nat} {y : Val} (hy : ys[k]? = some y) : (ys.take k ++ List.replicate (ys.length - k) Val.null).set k y = ys.take (k + 1) ++ List.replicate (ys.length - (k + 1)) Val.null := by
  have hk := (List.getElem?_eq_some_iff.1 hy).1
  have hl : (ys.take k).length = k := by rw [List.length_take]; omega
  rw [List.set_append_right _ _ (by omega), hl, Nat.sub_self, show ys.length - k = (ys.length - (k + 1)) + 1 by omega, List.replicate_succ, List.set_cons_zero, List.take_add_one, hy]
  simp
theorem FilN.step {w wr : World} {ys : List Val} {k : Nat} {y : Val} (h : FilN w wr ys k) (hy : ys[k]? = some y) : FilN w (((wr.setCell ⟨w.heap.size, k * 3, none⟩ (.int .i64 y.k)).setCell ⟨w.heap.size, k * 3 + 1, none⟩ (.int .i64 y.n)).setCell ⟨w.heap.size, k * 3 + 2, none⟩ (.string y.s)) ys (k + 1) := by
  obtain ⟨h2, h4⟩ := h
  have hk := (List.getElem?_eq_some_iff.1 hy).1
  refine ⟨?_, ((h4.setCell (Nat.le_refl _) _).setCell (Nat.le_refl _) _).setCell (Nat.le_refl _) _⟩
  rw [← FilN.next hy]
  exact h2.put (by rw [List.length_append, List.length_take, List.length_replicate]; omega) y
theorem FilN.skip {w wr : World} {ys : List Val} {k : Nat} (h : FilN w wr ys k) (hy : ys[k]? = some Val.null) : FilN w wr ys (k + 1) := by
  refine ⟨?_, h.2⟩
  have hk := (List.getElem?_eq_some_iff.1 hy).1
  have hl : (ys.take k).length = k := by rw [List.length_take]; omega
  have e : (ys.take k ++ List.replicate (ys.length - k) Val.null).set k Val.null = ys.take k ++ List.replicate (ys.length - k) Val.null := by
    rw [List.set_append_right _ _ (by omega), hl, Nat.sub_self, show ys.length - k = (ys.length - (k + 1)) + 1 by omega, List.replicate_succ, List.set_cons_zero]
  rw [← FilN.next hy, e]
  exact h.1
theorem FilN.done {w wr : World} {ys : List Val} (h : FilN w wr ys ys.length) (hm : ys.length ≤ 1048576) : Rw wr (.slice (some ⟨w.heap.size, 0, none⟩) ys.length ys.length) ys := by
  have h1 := h.1
  rw [List.take_length, Nat.sub_self, List.replicate_zero, List.append_nil] at h1
  exact ownV_Rw h1 hm
end Go.Proofs.YtcbenpodohjbiaaGreat
set_option linter.unusedSimpArgs false
set_option linter.unusedVariables false
namespace Go.Proofs.YtcbenpodohjbiaaGreat

/-! The runs that are to be merged, and how often their rows were put. -/
def wsum (R : List (List (List Val))) : List Nat → List Nat → Nat
  | i :: ids, l :: labs => l * (R.getD i []).length + wsum R ids labs
  | _, _ => 0
theorem rowsOf_cons (R : List (List (List Val))) (i : Nat) (ids : List Nat) : rowsOf R (i :: ids) = R.getD i [] ++ rowsOf R ids := by
  unfold rowsOf
  rw [List.flatMap_cons]
theorem rowsOf_app (R : List (List (List Val))) (a b : List Nat) : rowsOf R (a ++ b) = rowsOf R a ++ rowsOf R b := by
  unfold rowsOf
  rw [List.flatMap_append]
theorem rowsOf_one (R : List (List (List Val))) (i : Nat) : rowsOf R [i] = R.getD i [] := by
  unfold rowsOf
  simp
theorem rowsOf_cong {R R' : List (List (List Val))} {ids : List Nat} (h : ∀ i ∈ ids, R'.getD i [] = R.getD i []) : rowsOf R' ids = rowsOf R ids := by
  unfold rowsOf
  rw [List.flatMap_def, List.flatMap_def]
  congr 1
  exact List.map_congr_left h
theorem wsum_le {R : List (List (List Val))} {k : Nat} : ∀ {ids labs : List Nat}, (∀ l ∈ labs, l ≤ k) → wsum R ids labs ≤ k * (rowsOf R ids).length
  | [], labs, _ => by cases labs <;> simp [wsum]
  | i :: ids, [], _ => by simp [wsum]
  | i :: ids, l :: labs, h => by
    have ih := wsum_le (R := R) (ids := ids) (labs := labs) (fun x hx => h x (by simp [hx]))
    have h1 := Nat.mul_le_mul_right (R.getD i []).length (h l (by simp))
    rw [rowsOf_cons, List.length_append, Nat.mul_add]
    simp only [wsum]
    omega
theorem wsum_split {R : List (List (List Val))} : ∀ (c : Nat) {ids labs : List Nat}, labs.length = ids.length → wsum R ids labs = wsum R (ids.take c) (labs.take c) + wsum R (ids.drop c) (labs.drop c)
  | 0, ids, labs, _ => by simp [wsum]
  | c + 1, [], labs, h => by
    have : labs = [] := List.eq_nil_of_length_eq_zero (by simpa using h)
    subst this
    simp [wsum]
  | c + 1, i :: ids, [], h => by simp at h
  | c + 1, i :: ids, l :: labs, h => by
    have ih := wsum_split (R := R) c (ids := ids) (labs := labs) (by simpa using h)
    simp only [List.take_succ_cons, List.drop_succ_cons, wsum]
    omega
theorem wsum_snoc {R : List (List (List Val))} : ∀ {ids labs : List Nat} (i l : Nat), labs.length = ids.length → wsum R (ids ++ [i]) (labs ++ [l]) = wsum R ids labs + l * (R.getD i []).length
  | [], labs, i, l, h => by
    have : labs = [] := List.eq_nil_of_length_eq_zero (by simpa using h)
    subst this
    simp [wsum]
  | j :: ids, [], i, l, h => by simp at h
  | j :: ids, x :: labs, i, l, h => by
    have ih := wsum_snoc (R := R) (ids := ids) (labs := labs) i l (by simpa using h)
    simp only [List.cons_append, wsum]
    omega
theorem wsum_cong {R R' : List (List (List Val))} : ∀ {ids labs : List Nat}, (∀ i ∈ ids, R'.getD i [] = R.getD i []) → wsum R' ids labs = wsum R ids labs
  | [], labs, _ => by cases labs <;> simp [wsum]
  | i :: ids, [], _ => by simp [wsum]
  | i :: ids, l :: labs, h => by
    have ih := wsum_cong (R := R) (R' := R') (ids := ids) (labs := labs) (fun x hx => h x (by simp [hx]))
    simp only [wsum]
    rw [ih, h i (by simp)]
theorem wsum_ones {R : List (List (List Val))} : ∀ (ids : List Nat), wsum R ids (List.replicate ids.length 1) = (rowsOf R ids).length
  | [] => by simp [wsum, rowsOf]
  | i :: ids => by
    have ih := wsum_ones (R := R) ids
    rw [List.length_cons, List.replicate_succ, rowsOf_cons, List.length_append]
    simp only [wsum]
    omega
theorem Lab.mono {d k : Nat} {labs : List Nat} (h : Lab d k labs) {c : Nat} (h1 : 1 ≤ c) (h2 : c ≤ labs.length) : ∀ x ∈ labs.take c, x ≤ labs.getD (c - 1) 0 := by
  have hp : labs.Pairwise (· ≤ ·) := by
    obtain ⟨j, a, b, rfl, _⟩ := h
    rw [List.pairwise_append]
    refine ⟨List.pairwise_replicate.2 (.inr (Nat.le_refl _)), List.pairwise_replicate.2 (.inr (Nat.le_refl _)), fun x hx y hy => ?_⟩
    have := (List.mem_replicate.1 hx).2
    have := (List.mem_replicate.1 hy).2
    omega
  intro x hx
  obtain ⟨i, hi⟩ := List.getElem?_of_mem hx
  have hic : i < c := by have := (List.getElem?_eq_some_iff.1 hi).1; rw [List.length_take] at this; omega
  rw [List.getElem?_take, if_pos hic] at hi
  obtain ⟨hil, rfl⟩ := List.getElem?_eq_some_iff.1 hi
  rw [List.getD_eq_getElem?_getD, List.getElem?_eq_getElem (by omega), Option.getD_some]
  rcases Nat.lt_or_ge i (c - 1) with q | q
  · exact List.pairwise_iff_getElem.1 hp i (c - 1) hil (by omega) q
  · have : i = c - 1 := by omega
    subst this
    exact Nat.le_refl _
/-- The runs that wait to be merged. -/
structure QI (ks : List (Int × Bool)) (BU k : Nat) (A : List (List Val)) (C : Nat) (Y0 Y : Yv) (ids labs : List Nat) : Prop where
  rd : Y.rd = false
  rf : Y.rf = Y0.rf
  cd : Y.cd = Y0.cd
  out : Y.out = Y0.out
  held : Y.held = 0
  m0 : 0 ≤ Y.most
  m1 : Y.most ≤ BU
  nd : ids.Nodup
  th : ∀ i ∈ ids, Y.there[i]? = some true ∧ ∃ x rs, Y.runs[i]? = some (x :: rs)
  srt : ∀ i ∈ ids, (Y.runs.getD i []).Pairwise fun x y => ordG ks x y ≤ 0
  cln : ∀ i ∈ ids, ∀ x ∈ Y.runs.getD i [], cleanR x = x
  perm : (rowsOf Y.runs ids).Perm A
  lab : Lab (BU - 1) k labs
  ll : labs.length = ids.length
  p0 : 0 ≤ Y.puts
  p1 : Y.puts ≤ (wsum Y.runs ids labs : Nat)
  rl : Y.runs.length + ids.length ≤ C
theorem QI.lt {ks : List (Int × Bool)} {BU k : Nat} {A : List (List Val)} {C : Nat} {Y0 Y : Yv} {ids labs : List Nat} (h : QI ks BU k A C Y0 Y ids labs) : ∀ i ∈ ids, i < Y.runs.length := fun i hi => by
  obtain ⟨x, rs, e⟩ := (h.th i hi).2
  exact (List.getElem?_eq_some_iff.1 e).1
theorem new_getD {Y : Yv} {i : Nat} (h : i < Y.runs.length) : Y.tick.newRun.runs.getD i [] = Y.runs.getD i [] := by
  show (Y.runs ++ [[]]).getD i [] = _
  rw [List.getD_eq_getElem?_getD, List.getD_eq_getElem?_getD, List.getElem?_append_left h]
theorem new_get {Y : Yv} {i : Nat} (h : i < Y.runs.length) : Y.tick.newRun.runs[i]? = Y.runs[i]? := by
  show (Y.runs ++ [[]])[i]? = _
  rw [List.getElem?_append_left h]
/-- Some are merged into a new run. -/
theorem QI.merge {ks : List (Int × Bool)} {BU k : Nat} {A : List (List Val)} {C : Nat} {Y0 Y Y' : Yv} {ids labs : List Nat} {O : List (List Val)} {c : Nat} (h : QI ks BU k A C Y0 Y ids labs) (hBU : 4 ≤ BU) (ht : BU - 1 < ids.length) (hlen : Y.there.length = Y.runs.length) (hc : c = cntM (BU - 1) ids.length) (hM : MI ks (ids.take c) (some Y.runs.length) BU Y.tick.newRun Y' [] O []) :
    QI ks BU k A C Y0 Y' (ids.drop c ++ [Y.runs.length]) (labs.drop c ++ [labs.getD (c - 1) 0 + 1]) := by
  obtain ⟨c1, c2⟩ := cntM_le (t := ids.length) (show 3 ≤ BU - 1 by omega)
  rw [← hc] at c1 c2
  have hlt := h.lt
  have hnd := h.nd
  have hsplit : ids = ids.take c ++ ids.drop c := (List.take_append_drop c ids).symm
  have hdj : ∀ i ∈ ids.drop c, i ∉ ids.take c := fun i hi q => by
    rw [hsplit] at hnd
    exact (List.nodup_append.1 hnd).2.2 i q i hi rfl
  have hmd : ∀ i ∈ ids.drop c, i ∈ ids := fun i hi => List.mem_of_mem_drop hi
  have hmt : ∀ i ∈ ids.take c, i ∈ ids := fun i hi => List.mem_of_mem_take hi
  have hRt : Y.runs.length ∉ ids.take c := fun q => by have := hlt _ (hmt _ q); omega
  have hRd : Y.runs.length ∉ ids.drop c := fun q => by have := hlt _ (hmd _ q); omega
  obtain ⟨o1, o2⟩ := hM.done
  obtain ⟨r1, r2, r3⟩ := hM.r _ rfl
  have eT : rowsOf Y.tick.newRun.runs (ids.take c) = rowsOf Y.runs (ids.take c) := rowsOf_cong fun i hi => new_getD (hlt i (hmt i hi))
  rw [eT] at o1
  have kd : ∀ i ∈ ids.drop c, Y'.runs[i]? = Y.runs[i]? := fun i hi => by
    rw [hM.keep i (hdj i hi) (fun e => by injection e with e; have := hlt _ (hmd _ hi); omega)]
    exact new_get (hlt i (hmd i hi))
  have kg : ∀ i ∈ ids.drop c, Y'.runs.getD i [] = Y.runs.getD i [] := fun i hi => by rw [List.getD_eq_getElem?_getD, List.getD_eq_getElem?_getD, kd i hi]
  have eR : Y'.runs.getD Y.runs.length [] = O := getD_of r2
  have eD : rowsOf Y'.runs (ids.drop c) = rowsOf Y.runs (ids.drop c) := rowsOf_cong kg
  have hO : ∃ x rs, O = x :: rs := by
    cases hO : O with
    | cons x rs => exact ⟨x, rs, rfl⟩
    | nil =>
      exfalso
      subst hO
      have e := o1.length_eq
      obtain ⟨i, t, ei⟩ : ∃ i t, ids.take c = i :: t := by
        cases e2 : ids.take c with
        | nil => have := congrArg List.length e2; rw [List.length_take, List.length_nil] at this; omega
        | cons i t => exact ⟨i, t, rfl⟩
      rw [ei, rowsOf_cons] at e
      obtain ⟨x, rs, er⟩ := (h.th i (hmt i (by rw [ei]; simp))).2
      rw [getD_of er] at e
      simp at e
  have hdl : (ids.drop c).length = ids.length - c := List.length_drop
  refine ⟨hM.rd, hM.rf.trans h.rf, hM.cd.trans h.cd, r1.trans h.out, by have := hM.held; simpa using this, ?_, hM.most, ?_, fun i hi => ?_, fun i hi => ?_, fun i hi => ?_, ?_, ?_, ?_, ?_, ?_, ?_⟩
  · have := hM.hm; have h2 := hM.held; simp at h2; omega
  · refine List.nodup_append.2 ⟨?_, by simp, fun a ha b hb e => ?_⟩
    · rw [hsplit] at hnd; exact (List.nodup_append.1 hnd).2.1
    · simp at hb; subst hb; subst e; exact hRd ha
  · rcases List.mem_append.1 hi with q | q
    · obtain ⟨t1, t2⟩ := h.th i (hmd i q)
      refine ⟨?_, by rw [kd i q]; exact t2⟩
      rw [hM.oth i (hdj i q)]
      show (Y.there ++ [true])[i]? = _
      rw [List.getElem?_append_left (by have := hlt i (hmd i q); omega)]
      exact t1
    · simp at q
      subst q
      refine ⟨?_, ?_⟩
      · rw [hM.oth _ hRt]
        show (Y.there ++ [true])[Y.runs.length]? = _
        rw [← hlen, List.getElem?_append_right (Nat.le_refl _), Nat.sub_self]; rfl
      · obtain ⟨x, rs, e⟩ := hO
        exact ⟨x, rs, by rw [r2, e]⟩
  · rcases List.mem_append.1 hi with q | q
    · rw [kg i q]; exact h.srt i (hmd i q)
    · simp at q
      subst q
      rw [eR]; exact o2
  · rcases List.mem_append.1 hi with q | q
    · rw [kg i q]; exact h.cln i (hmd i q)
    · simp at q
      subst q
      rw [eR]
      intro x hx
      have hx' := o1.mem_iff.1 hx
      unfold rowsOf at hx'
      obtain ⟨j, hj, hxj⟩ := List.mem_flatMap.1 hx'
      exact h.cln j (hmt j hj) x hxj
  · rw [rowsOf_app, rowsOf_one, eR, eD]
    refine List.Perm.trans ?_ h.perm
    refine List.Perm.trans (List.Perm.append (List.Perm.refl _) o1) ?_
    refine List.Perm.trans List.perm_append_comm ?_
    rw [← rowsOf_app, ← hsplit]
  · have := h.lab.step (show 3 ≤ BU - 1 by omega) (by rw [h.ll]; exact ht)
    rw [h.ll, ← hc] at this
    exact this
  · rw [List.length_append, List.length_append, List.length_drop, List.length_drop, h.ll]; rfl
  · rw [r3]
    have := h.p0
    show 0 ≤ Y.puts + _
    omega
  · rw [r3, wsum_snoc _ _ (by rw [List.length_drop, List.length_drop, h.ll]), wsum_cong kg, eR]
    have e1 := wsum_split (R := Y.runs) c h.ll
    have e2 := wsum_le (R := Y.runs) (ids := ids.take c) (h.lab.mono (c := c) (by omega) (by rw [h.ll]; omega))
    have e3 := o1.length_eq
    have e4 := h.p1
    rw [e1] at e4
    rw [← e3] at e2
    have e5 : (labs.getD (c - 1) 0 + 1) * O.length = labs.getD (c - 1) 0 * O.length + O.length := by rw [Nat.add_mul, Nat.one_mul]
    rw [e5]
    show Y.puts + _ ≤ _
    omega
  · have e1 : Y'.runs.length = Y.runs.length + 1 := by
      rw [hM.len]
      show (Y.runs ++ [[]]).length = _
      rw [List.length_append]; rfl
    have := h.rl
    rw [e1, List.length_append, List.length_drop]
    simp only [List.length_cons, List.length_nil]
    omega
theorem QI.puts {ks : List (Int × Bool)} {BU k : Nat} {A : List (List Val)} {C : Nat} {Y0 Y : Yv} {ids labs : List Nat} (h : QI ks BU k A C Y0 Y ids labs) (hBU : 4 ≤ BU) : Y.puts ≤ ((A.length * k : Nat) : Int) := by
  have e1 := wsum_le (R := Y.runs) (ids := ids) (h.lab.le (show 3 ≤ BU - 1 by omega))
  rw [h.perm.length_eq, Nat.mul_comm] at e1
  have := h.p1
  omega
end Go.Proofs.YtcbenpodohjbiaaGreat
set_option linter.unusedSimpArgs false
set_option linter.unusedVariables false
set_option maxRecDepth 100000
namespace Go.Proofs.YtcbenpodohjbiaaGreat
open Go.RowKit Go.Sort

/-- A type of keys. -/
structure KeyT (κ : Type) (k : TypeId) where
  K : Maps.Keyed Tryz.prog k
  v : κ → Value
  l : κ → Lit
  ok : κ → Prop
  key : ∀ x, ok x → keyOf Tryz.prog k (v x) = some (l x)
  isk : ∀ x, WideAt.IsKeyLit (l x)
  inj : ∀ x y, l x = l y → x = y
def In64 (x : Int) : Prop := -9223372036854775808 ≤ x ∧ x ≤ 9223372036854775807
theorem wf64 {x : Int} (h : In64 x) : (Lit.int .i64 x).wf = true := by
  simp [Lit.wf, IntKind.min, IntKind.max, IntKind.signed, IntKind.bits]
  exact ⟨h.1, h.2⟩
def keyN : KeyT Int 3 := ⟨Maps.int_keyed Tryz.underlying3, fun x => .int .i64 x, fun x => .int .i64 x, In64, fun x h => Maps.keyOf_int_mk Tryz.underlying3 (wf64 h), fun _ => trivial, fun x y h => by injection h⟩
/-- A map that counts. -/
def MpC {κ : Type} {k : TypeId} (T : KeyT κ k) (w : World) (b n : Nat) (f : κ → Int) : Prop := ∃ D : DataW Unit, w.ownsMap Tryz.prog k (plainElem Tryz.prog 3) b n D ∧ Maps.IsMap D ∧ ∀ x, D.atKey (T.l x) (.lit (.int .i64 0)) = .lit (.int .i64 (f x))
theorem zero3 (w : World) : (zeroValue 3).run Tryz.prog w = .ok (.int .i64 0) w := by kernel_rfl
theorem MpC.made {κ : Type} {k : TypeId} (T : KeyT κ k) (w : World) : MpC T (w.alloc (.map #[] 0)) w.heap.size 0 (fun _ => 0) := ⟨.map [], World.ownsMap_made w Tryz.prog k _, ⟨[], rfl⟩, fun x => by rfl⟩
theorem MpC.lt {κ : Type} {k : TypeId} {T : KeyT κ k} {w : World} {b n : Nat} {f : κ → Int} (h : MpC T w b n f) : b < w.heap.size := by obtain ⟨D, h, _⟩ := h; exact h.lt
theorem MpC.later {κ : Type} {k : TypeId} {T : KeyT κ k} {w w' : World} {b n : Nat} {f : κ → Int} (h : MpC T w b n f) (hb : Below w.heap.size w w') : MpC T w' b n f := by
  have hlt := h.lt
  obtain ⟨D, ⟨es, clock, h1, h2⟩, h3⟩ := h
  exact ⟨D, ⟨es, clock, by rw [hb.block b hlt]; exact h1, h2⟩, h3⟩
theorem MpC.look {κ : Type} {k : TypeId} {T : KeyT κ k} {w : World} {b n : Nat} {f : κ → Int} (h : MpC T w b n f) {t : TypeId} (ht : Tryz.prog.underlying t = some (.map k 3)) {x : κ} (hx : T.ok x) : (Instr.lookup t (.map (some b)) (T.v x) false).run Tryz.prog w = .ok (.int .i64 (f x)) w := by
  obtain ⟨D, h1, h2, h3⟩ := h
  obtain ⟨c, hr, ha, _⟩ := h1.lookup_int T.K ht Tryz.underlying3 (zero3 w) (T.key x hx)
  rw [h3 x] at ha
  simp only [DataW.lit.injEq, Lit.int.injEq, true_and] at ha
  rw [hr, ha]
theorem MpC.put {κ : Type} [DecidableEq κ] {k : TypeId} {T : KeyT κ k} {w : World} {b n : Nat} {f : κ → Int} (h : MpC T w b n f) {t : TypeId} (ht : Tryz.prog.underlying t = some (.map k 3)) (hn : n ≤ 140737488355328) {x : κ} (hx : T.ok x) {c : Int} (hc : In64 c) :
    ∃ w', (Instr.mapUpdate t (.map (some b)) (T.v x) (.int .i64 c)).run Tryz.prog w = .ok () w' ∧ MpC T w' b (n + 1) (fun y => if y = x then c else f y) ∧ w.grownBy w' (some b) := by
  obtain ⟨D, h1, h2, h3⟩ := h
  obtain ⟨w', hr, ho, hg⟩ := h1.update T.K ht (by unfold maxLen; omega) (T.key x hx) (plainElem_int Tryz.underlying3 (wf64 hc))
  refine ⟨w', hr, ⟨_, ho, ?_, fun y => ?_⟩, hg⟩
  · obtain ⟨es, rfl⟩ := h2
    exact ⟨_, rfl⟩
  · show _ = DataW.lit (.int .i64 (if y = x then c else f y))
    by_cases e : y = x
    · subst e
      rw [if_pos rfl, Maps.atKey_put_same h2 (T.isk _)]
    · rw [if_neg e, Maps.atKey_put_other (fun q => e (T.inj _ _ q)), h3 y]
/-- m[x] = v. -/
theorem wpList_put_run {ops : Array Oper} {rest : List Oper} {o : Oper} {a : Act} {w : World} {Q : Exit → Act → World → Prop} (hgd : o.guard = none) (m x v : Operand) (t : TypeId) (hop : o.op = Op.mapUpdate t m x v) (vm vx vv : Value) (hm : a.eval m = vm) (hx : a.eval x = vx) (hv : a.eval v = vv) {w' : World}
    (hr : (Instr.mapUpdate t vm vx vv).run Tryz.prog w = .ok () w') (h : wpList Tryz.prog ops Q rest (a.put o.dst undef) w') : wpList Tryz.prog ops Q (o :: rest) a w := by
  refine wpList_plain hgd fun K' hK' => ?_
  unfold Oper.wp
  simp [execOp, hop, hm, hx, hv, hr, Result.andThen]
  exact hK' _ _ h
theorem wpList_look_run {ops : Array Oper} {rest : List Oper} {o : Oper} {a : Act} {w : World} {Q : Exit → Act → World → Prop} (hgd : o.guard = none) (m x : Operand) (t : TypeId) (hop : o.op = Op.lookup t m x false) (vm vx : Value) (hm : a.eval m = vm) (hx : a.eval x = vx) {v' : Value}
    (hr : (Instr.lookup t vm vx false).run Tryz.prog w = .ok v' w) (h : wpList Tryz.prog ops Q rest (a.put o.dst v') w) : wpList Tryz.prog ops Q (o :: rest) a w := by
  refine wpList_plain hgd fun K' hK' => ?_
  unfold Oper.wp
  simp [execOp, hop, hm, hx, hr, Result.andThen]
  exact hK' _ _ h
theorem grown_belowP {w w' : World} {row : Option Nat} (hg : w.grownBy w' row) {B : Nat} (hB : B ≤ w.heap.size) (hr : ∀ g, row = some g → B ≤ g) : Below B w w' :=
  ⟨hg.os, hg.tape, hg.output, hg.size, fun k hk => hg.block k (by omega) (fun e => by have := hr k e.symm; omega)⟩
theorem cntF_step {κ : Type} [DecidableEq κ] {xs : List κ} {k : Nat} {x : κ} (h : xs[k]? = some x) : (fun y => if y = x then cntF xs k x + 1 else cntF xs k y) = cntF xs (k + 1) := by
  funext y
  obtain ⟨h1, rfl⟩ := List.getElem?_eq_some_iff.1 h
  unfold cntF
  rw [List.take_succ_eq_append_getElem h1, List.count_append]
  by_cases e : y = xs[k]
  · subst e; rw [if_pos rfl]; simp
  · rw [if_neg e]
    have : List.count y [xs[k]] = 0 := by rw [List.count_eq_zero]; simpa using e
    rw [this]; simp
theorem cntF_le {κ : Type} [DecidableEq κ] (xs : List κ) (k : Nat) (x : κ) : 0 ≤ cntF xs k x ∧ cntF xs k x ≤ k := by
  unfold cntF
  have := List.count_le_length (l := xs.take k) (a := x)
  rw [List.length_take] at this
  omega
end Go.Proofs.YtcbenpodohjbiaaGreat
set_option linter.unusedSimpArgs false
set_option linter.unusedVariables false
set_option maxRecDepth 100000
namespace Go.Proofs.YtcbenpodohjbiaaGreat
open Go.RowKit Go.Sort

theorem make_none {t k e : TypeId} (h : Tryz.prog.underlying t = some (.map k e)) (W : World) : (Instr.makeMap t none).run Tryz.prog W = .ok (.map (some W.heap.size)) (W.alloc (.map #[] 0)) := by
  simp [Instr.makeMap, run_underlying h, Result.andThen]
theorem any_take {xs : List Int} {k : Nat} {x : Int} (h : xs[k]? = some x) (hn : ∀ y ∈ xs.take k, 0 ≤ y) (h0 : 0 ≤ x) : ∀ y ∈ xs.take (k + 1), 0 ≤ y := by
  obtain ⟨h1, rfl⟩ := List.getElem?_eq_some_iff.1 h
  rw [List.take_succ_eq_append_getElem h1]
  intro y hy
  rcases List.mem_append.1 hy with hy | hy
  · exact hn y hy
  · simp at hy; subst hy; exact h0
set_option maxHeartbeats 2000000 in
/-- areKeys (16). -/
theorem areKeys_any (ks : List (Int × Bool)) (a : Option Addr) (c : Nat) (w : World) (hl : ks.length ≤ 1048576) (hx : ∀ x ∈ ks.map Prod.fst, In64 x) (ha : KeysAt w a ks) :
    Calls Tryz.prog 16 #[.slice a ks.length c] w fun r w' => r = .returned (.bool (keysB ks)) ∧ Below w.heap.size w w' := by
  have HX := hide hx
  have HA := hide ha
  obtain ⟨R, hR⟩ : ∃ R, R = keysB ks := ⟨_, rfl⟩
  rw [← hR]
  unfold keysB at hR
  have HXS := hide (show ∀ (k : Nat) (x : Int × Bool), ks[k]? = some x → (ks.map Prod.fst)[k]? = some x.1 from fun k x h => by rw [List.getElem?_map, h]; rfl)
  have hxl : (ks.map Prod.fst).length = ks.length := List.length_map _
  generalize ks.map Prod.fst = xs at *
  have HR := hide hR
  have HM0 := hide (MpC.made keyN w)
  have HB0 := hide (below_alloc (Below.refl _ w) (.map #[] 0))
  clear hx ha hR
  have hmm := make_none (t := 79) Tryz.underlying79
  go_enter Tryz.func16, Tryz.ntmps16
  go_wp2_with fail
  go_loopw [9] (fun i wr => ∃ (k : Nat), k ≤ ks.length ∧ i = .int .i64 (k : Int) ∧ Hid (MpC keyN wr w.heap.size k (cntF xs k)) ∧ Hid ((xs.take k).Nodup) ∧ Hid (∀ y ∈ xs.take k, 0 ≤ y) ∧ Hid (Below w.heap.size w wr)) (fun i _ => ks.length - (intOf i).toNat)
  case atStart => exact ⟨0, Nat.zero_le _, rfl, by have := unhide HM0; have e : (fun _ => (0 : Int)) = cntF xs 0 := (by funext y; simp [cntF]); rw [e] at this; exact this, by show (xs.take 0).Nodup; simp, by show ∀ y ∈ xs.take 0, 0 ≤ y; simp, unhide HB0⟩
  case round =>
    clear HM0 HB0 hmm
    obtain ⟨k, hk, rfl, HM, HN, HP0, HB⟩ := hrel
    by_cases hlt : k < ks.length
    · have h9 : (k : Int) < (ks.length : Int) := by omega
      obtain ⟨⟨x, x2⟩, hx'⟩ : ∃ x, ks[k]? = some x := ⟨_, List.getElem?_eq_getElem hlt⟩
      obtain ⟨b, off, rfl, d0, d1⟩ := ((unhide HA).later (unhide HB)).get hx'
      have hx := unhide HXS k _ hx'
      simp only at hx d0 d1
      have hok := unhide HX x (List.mem_of_getElem? hx)
      have hle := cntF_le xs k x
      have hb1 := below_alloc (Below.refl _ wr) (.cells #[.int .i64 x, .bool x2] 58)
      have hM1 := (unhide HM).later hb1
      have hc1 : (wr.alloc (.cells #[.int .i64 x, .bool x2] 58)).cell? ⟨wr.heap.size, 0, none⟩ = some (.int .i64 x) := by
        have e : (wr.alloc (.cells #[.int .i64 x, .bool x2] 58)).heap[wr.heap.size]? = some (.cells #[.int .i64 x, .bool x2] 58) := by rw [← World.alloc_eq]; exact Array.getElem?_push_size
        simp only [World.cell?, e]
        rfl
      have hmlt := (unhide HM).lt
      obtain ⟨w1, hw1⟩ : ∃ w1, wr.alloc (.cells #[.int .i64 x, .bool x2] 58) = w1 := ⟨_, rfl⟩
      have hl1 := hM1.look (t := 79) Tryz.underlying79 (x := x) hok
      obtain ⟨w2, hp, hm2, hg⟩ := hM1.put (t := 79) Tryz.underlying79 (by omega) (x := x) hok (c := cntF xs k x + 1) ⟨by omega, by omega⟩
      have hc2 : w2.cell? ⟨wr.heap.size, 0, none⟩ = some (.int .i64 x) := by
        rw [← hc1]
        have := hg.block wr.heap.size (by simp [go_sem]) (by intro e; injection e with e; omega)
        simp only [World.cell?, this]
      have hl2 := hm2.look (t := 79) Tryz.underlying79 (x := x) hok
      rw [if_pos rfl] at hl2
      rw [cntF_step hx] at hm2
      have hns := nodup_step hx (unhide HN)
      have HB1 := below_step (unhide HB) hb1
      have hb2 := HB1.trans (grown_belowP hg HB1.size (fun g e => by cases e; exact Nat.le_refl _))
      have HPO := hide (any_take hx (unhide HP0))
      have HBAD : Hid (x < 0 → R = false) := fun h0 => by
        rw [unhide HR]
        have : (xs.any fun x => decide (x < 0)) = true := List.any_eq_true.2 ⟨x, List.mem_of_getElem? hx, by simpa using h0⟩
        rw [this]; rfl
      have HL1 := hide hl1
      have HP := hide hp
      have HL2 := hide hl2
      have HM2 := hide hm2
      have HB2 := hide hb2
      have HNS := hide hns
      generalize cntF xs k x = cc at *
      clear hx hx' hl1 hp hl2 hm2 hb2 hg hns HM HN HB HP0 hM1 hb1 hw1 w1 HB1 hc1
      change Hid ((Instr.lookup 79 (.map (some w.heap.size)) (.int .i64 x) false).run Tryz.prog _ = .ok (.int .i64 cc) _) at HL1
      change Hid ((Instr.lookup 79 (.map (some w.heap.size)) (.int .i64 x) false).run Tryz.prog w2 = .ok (.int .i64 (cc + 1)) w2) at HL2
      change Hid ((Instr.mapUpdate 79 (.map (some w.heap.size)) (.int .i64 x) (.int .i64 (cc + 1))).run Tryz.prog _ = .ok () w2) at HP
      by_cases hx0 : x < 0
      · go_wp2_with (first
          | (at_lookup; refine wpList_look_run rfl (.tmp 13) (.tmp 15) 79 rfl _ _ rfl rfl (unhide HL1) ?_)
          | (at_mapUpdate; refine wpList_put_run rfl (.tmp 13) (.tmp 15) (.tmp 17) 79 rfl _ _ _ rfl rfl rfl (unhide HP) ?_))
        go_ret
        exact ⟨by rw [unhide HBAD hx0]; rfl, unhide HB2⟩
      by_cases h0 : cc = 0
      · subst h0
        have hl2 := unhide HL2
        go_wp2_with (first
          | (at_lookup; refine wpList_look_run rfl (.tmp 13) (.tmp 15) 79 rfl _ _ rfl rfl (unhide HL1) ?_)
          | (at_mapUpdate; refine wpList_put_run rfl (.tmp 13) (.tmp 15) (.tmp 17) 79 rfl _ _ _ rfl rfl rfl (unhide HP) ?_))
        exact ⟨⟨k + 1, by omega, by go_num, unhide HM2, (unhide HNS).1 rfl, unhide HPO (by omega), unhide HB2⟩, by simp [intOf]; omega⟩
      · have hgt : (1 : Int) < cc + 1 := by omega
        have HZ : Hid (R = false) := by rw [unhide HR]; have := (unhide HNS).2 h0; show _ = _; simp [this]
        clear h0
        have hl2 := unhide HL2
        go_wp2_with (first
          | (at_lookup; refine wpList_look_run rfl (.tmp 13) (.tmp 15) 79 rfl _ _ rfl rfl (unhide HL1) ?_)
          | (at_mapUpdate; refine wpList_put_run rfl (.tmp 13) (.tmp 15) (.tmp 17) 79 rfl _ _ _ rfl rfl rfl (unhide HP) ?_))
        go_ret
        exact ⟨by rw [unhide HZ]; rfl, unhide HB2⟩
    · have h9 : ¬ (k : Int) < (ks.length : Int) := by omega
      have HZ : Hid (R = true) := by
        have h1 := unhide HN
        have h2 := unhide HP0
        rw [List.take_of_length_le (by omega)] at h1 h2
        have h3 : (xs.any fun x => decide (x < 0)) = false := by
          rw [List.any_eq_false]; intro y hy; have := h2 y hy; simpa using this
        rw [unhide HR, h3]; show _ = _; simpa using h1
      clear HM HN HP0
      go_wp2
      go_ret
      exact ⟨by rw [unhide HZ]; rfl, unhide HB⟩
end Go.Proofs.YtcbenpodohjbiaaGreat

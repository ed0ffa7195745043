import Derived.Test.YtjnggnhgambmkaaGreatRxD
import Derived.Defers
import Derived.Recover
import Derived.Test.YtjnggnhgambmkaaGreatMmJ
import Derived.Test.YtjnggnhgambmkaaGreatMmK
import Derived.Test.YtjnggnhgambmkaaGreatRdR
import Derived.Test.YtjnggnhgambmkaaGreatPackZ
set_option linter.unusedSimpArgs false
set_option linter.unusedVariables false
namespace Go.Proofs.YtjnggnhgambmkaaGreat
open Go.RowKit Go.Sort

theorem wp_cast {P : Program} {c : Code} {Q : Exit → Act → World → Prop} {T T' : Array Value} {ds : List Deferred} {w : World} (e : T = T') (h : c.wp P Q { tmps := T', defers := ds } w) : c.wp P Q { tmps := T, defers := ds } w := e ▸ h
set_option maxHeartbeats 1000000 in
set_option maxRecDepth 100000 in
theorem catch_dmg (g h : Nat) (w : World) (hg : w.rowIs g 72 3 (box86 (.int .i64 0) (.int .i64 0) (.slice none 0 0))) (hh : At1 w h 30 (.int .i64 0)) (hgh : g ≠ h) :
    CallsD Tryz.prog 42 #[.pointer (some ⟨g, 0, none⟩), .pointer (some ⟨h, 0, none⟩)] (.panicking [{ v := .iface 81 (.agg #[]), recovered := false }]) w fun e u' w' => e = .returned (.tuple #[]) ∧ u' = .panicking [{ v := .iface 81 (.agg #[]), recovered := true }] ∧
      w' = ((((w.alloc (.cells #[] 81)).setCell ⟨g, 0, none⟩ (.int .i64 0)).setCell ⟨g, 1, none⟩ (.int .i64 0)).setCell ⟨g, 2, none⟩ (.slice none 0 0)).setCell ⟨h, 0, none⟩ (.int .i64 2) := by
  obtain ⟨p0, p1, p2, q0, q1, q2⟩ := box86_facts (hg.alloc (.cells #[] 81))
  have y0 := (hh.new (.cells #[] 81)).cell
  have z0 := World.rowIs.frozen (hh.new (.cells #[] 81)) 0
  have hta : ∀ w : World, (Instr.typeAssert (Value.iface 81 (Value.agg #[])) 20 81 true).run Tryz.prog w = .ok (.tuple #[.agg #[], .bool true]) w := fun _ => by kernel_rfl
  refine callsD_of_wpS Tryz.func42 rfl fun c₀ cs hu => ?_
  apply wpS_seq
  apply wpS_region
  simp [wpOpsS, go_sem, recoverD, hu, Tryz.ntmps42, Exit.thenS]
  refine wpS_of_wp ?_
  refine wp_cast (T' := #[.pointer (some ⟨g, 0, none⟩), .pointer (some ⟨h, 0, none⟩), .iface 81 (.agg #[]), undef, undef, .iface 81 (.agg #[]), undef, undef, undef, undef, undef, undef, undef, undef, undef, undef, undef]) (by rfl) ?_
  go_wp2
  exact ⟨rfl, _, rfl, _, by simp [results, Tryz.results42, go_sem], rfl, rfl, rfl⟩
set_option maxHeartbeats 400000 in
set_option maxRecDepth 100000 in
theorem opened_no {l : List UInt8} {w : World} (hl : l.length ≤ 140737488355328) (hd : columnD l = none) :
    Calls Tryz.prog 37 #[.string (bs l)] w fun e w' => e = .returned (.tuple #[.agg #[.int .i64 0, .int .i64 0, .slice none 0 0], .int .i64 2]) ∧ Below w.heap.size w w' := by
  have hmf := makeFunc_run
  have HC : Hid (∀ o1 o2, Calls Tryz.prog 43 #[.pointer (some ⟨w.heap.size + 1 + 1, 0, none⟩)] (((w.alloc o1).alloc o2).alloc (.cells #[.string (bs l)] 84)) fun e w' => e = dmg ∧ Gr (((w.alloc o1).alloc o2).alloc (.cells #[.string (bs l)] 84)) w' (w.heap.size + 1 + 1)) := fun o1 o2 => by
    have h := Rd.made ((w.alloc o1).alloc o2) l
    have e : ((w.alloc o1).alloc o2).heap.size = w.heap.size + 1 + 1 := by simp
    rw [e] at h
    exact column_no h hl hd
  have HX : Hid (∀ w1 o, Gr (((w.alloc (.cells #[.int .i64 0, .int .i64 0, .slice none 0 0] 72)).alloc (.cells #[.int .i64 0] 30)).alloc o) w1 (w.heap.size + 1 + 1) → w1.rowIs w.heap.size 72 3 (box86 (.int .i64 0) (.int .i64 0) (.slice none 0 0)) ∧ At1 w1 (w.heap.size + 1) 30 (.int .i64 0)) := fun w1 o hg => by
    refine ⟨row_grx (((box86_alloc w _ _ _).alloc _).alloc _) hg (by omega), ?_⟩
    have h := At1.alloc (w.alloc (.cells #[.int .i64 0, .int .i64 0, .slice none 0 0] 72)) 30 (.int .i64 0)
    have e : (w.alloc (.cells #[.int .i64 0, .int .i64 0, .slice none 0 0] 72)).heap.size = w.heap.size + 1 := by simp
    rw [e] at h
    exact (h.new o).gr hg (by omega)
  go_enter_defers Tryz.func37, Tryz.ntmps37
  go_wp2_with (go_at_call 43; refine (unhide HC _ _).mono ?_; rintro e w1 ⟨rfl, hg1⟩; obtain ⟨hx1, hx2⟩ := unhide HX w1 _ hg1)
  refine leaves_cons (f := 42) (args := #[.pointer (some ⟨w.heap.size, 0, none⟩), .pointer (some ⟨w.heap.size + 1, 0, none⟩)]) (by simp) (by simp [go_sem]) ?_
  refine (catch_dmg w.heap.size (w.heap.size + 1) _ hx1 hx2 (by omega)).mono ?_
  rintro e u' w'' ⟨rfl, rfl, hw⟩
  have hz : w.heap.size + 1 + 1 + 1 ≤ w1.heap.size := by have := hg1.size; simpa using this
  have hb : Below w.heap.size w w1 := by
    refine ⟨hg1.os, hg1.tape, hg1.output, by omega, fun i hi => ?_⟩
    rw [hg1.block i (by simp; omega) (fun e => by injection e with e; omega), Below.heap_alloc _ _ _ (by simp; omega), Below.heap_alloc _ _ _ (by simp; omega), Below.heap_alloc _ _ _ hi]
  have hB : Below w.heap.size w w'' := by
    rw [hw]
    exact ((((below_alloc hb _).setCell (p := ⟨w.heap.size, 0, none⟩) (Nat.le_refl _) _).setCell (p := ⟨w.heap.size, 1, none⟩) (Nat.le_refl _) _).setCell (p := ⟨w.heap.size, 2, none⟩) (Nat.le_refl _) _).setCell (p := ⟨w.heap.size + 1, 0, none⟩) (by simp) _
  have hx3 : w''.rowIs w.heap.size 72 3 (box86 (.int .i64 0) (.int .i64 0) (.slice none 0 0)) := by
    rw [hw]
    refine World.rowIs.setOther ?_ (by simp) _
    refine World.rowIs.congr (World.rowIs.set (World.rowIs.set (World.rowIs.set (World.rowIs.alloc hx1 (.cells #[] 81)) 0 (.int .i64 0)) 1 (.int .i64 0)) 2 (.slice none 0 0)) ?_
    intro i hi
    match i, hi with
    | 0, _ => rfl
    | 1, _ => rfl
    | 2, _ => rfl
  have hx4 : At1 w'' (w.heap.size + 1) 30 (.int .i64 2) := by
    rw [hw]
    refine World.rowIs.congr (World.rowIs.set (World.rowIs.setOther (World.rowIs.setOther (World.rowIs.setOther (World.rowIs.alloc hx2 (.cells #[] 81)) (by simp) _) (by simp) _) (by simp) _) 0 (.int .i64 2)) ?_
    intro i hi
    have e0 : i = 0 := by omega
    subst e0
    simp
  obtain ⟨p0, p1, p2, q0, q1, q2⟩ := box86_facts hx3
  have y0 := hx4.cell
  clear hw hx1 hx2
  refine ⟨.tuple #[.agg #[.int .i64 0, .int .i64 0, .slice none 0 0], .int .i64 2], ?_, rfl, hB⟩
  simp [results, Tryz.results37, go_sem, p0, p1, p2, y0]
end Go.Proofs.YtjnggnhgambmkaaGreat
set_option linter.unusedSimpArgs false
set_option linter.unusedVariables false
set_option maxRecDepth 100000
namespace Go.Proofs.YtjnggnhgambmkaaGreat
open Go.RowKit Go.Sort

set_option maxHeartbeats 400000 in
/-- Read of the empty text. -/
theorem pread_empty (w : World) : Calls Tryz.prog 20 #[.string ⟨#[]⟩] w fun e w' => ∃ (p : Sl) (err : Int), e = .returned (.tuple #[vecV Vc.zero p, .int .i64 err]) ∧ VecAt w' Vc.zero p ∧ Own3 w' w.heap.size Vc.zero p ∧ Below w.heap.size w w' := by
  have H : Hid (∀ W, Calls Tryz.prog 37 #[.string ⟨#[]⟩] W fun e w' => e = .returned (.tuple #[.agg #[.int .i64 0, .int .i64 0, .slice none 0 0], .int .i64 2]) ∧ Below W.heap.size W w') := fun W => opened_no (l := []) (w := W) (by simp) (by rfl)
  go_enter Tryz.func20, Tryz.ntmps20
  go_wp2_with (go_at_call 37; refine (unhide H _).mono ?_; rintro e w1 ⟨rfl, hb1⟩; obtain ⟨r0, r1, r2, r3, s0, s1, s2, s3⟩ := box_facts (World.rowIs.alloc (rowIs_later (box4_alloc w (.int .i64 0) (.slice none 0 0) (.slice none 0 0) (.slice none 0 0)) hb1) (.cells #[.int .i64 0, .int .i64 0, .slice none 0 0] 72)))
  have hB := below_alloc (below_one hb1) (.cells #[.int .i64 0, .int .i64 0, .slice none 0 0] 72)
  refine bodyPost_ret (v := .tuple #[zeroVec, .int .i64 2]) (by simp [results, Tryz.results20, go_sem, zeroVec, *]) rfl ?_
  exact ⟨⟨none, 0, none, 0, none, 0⟩, 2, rfl, VecAt.zero _, Own3.zero _ _, below_set4 hB (Nat.le_refl _) _ _ _ _⟩
/-- What Read answers of what Pack wrote of a column of From's. -/
theorem read_of {kind : Int} {xs : List Val} {X : Vc} (hf : fromV kind xs = (X, 0)) (hr : ∀ x ∈ xs, -9223372036854775808 ≤ x.n ∧ x.n ≤ 9223372036854775807) {s : ByteArray} {f : Int} (h : PP X s f) :
    (xs.length ≤ 4096 ∧ f = 0 ∧ ∀ W, Calls Tryz.prog 20 #[.string s] W fun e w' => ∃ p, e = .returned (.tuple #[vecV X p, .int .i64 0]) ∧ VecAt w' X p ∧ Own3 w' W.heap.size X p ∧ Below W.heap.size W w') ∨
    (4096 < xs.length ∧ ∀ W, Calls Tryz.prog 20 #[.string s] W fun e w' => ∃ (p : Sl) (err : Int), e = .returned (.tuple #[vecV Vc.zero p, .int .i64 err]) ∧ VecAt w' Vc.zero p ∧ Own3 w' W.heap.size Vc.zero p ∧ Below W.heap.size W w') := by
  obtain ⟨hg, hk, hv, hff, hl, hl2, hl3, hrr⟩ := from_ok hf
  have hpw : ∀ (b : ByteArray) (n : Int), PW X n b 0 → X.nl.length ≤ 4096 := fun b n h => by
    rcases h with ⟨_, _, h⟩ | ⟨_, _, _, h⟩ | ⟨_, h, _⟩
    · cases h
    · cases h
    · exact h
  rcases h with ⟨rfl, h⟩ | ⟨rfl, hf0, t, h⟩
  · left
    obtain ⟨⟨n, h1, h4, hw⟩, _⟩ := pb_one hg 3 s h
    have hle := hpw _ _ hw
    refine ⟨by omega, rfl, fun W => ?_⟩
    have ho := pw_opens (hrr hr) h1 (by omega) hw
    have hvl : (valsV X).length ≤ 4096 := Nat.le_trans (vals_le X) hle
    exact pread_any ho hvl hff W
  · right
    refine ⟨?_, pread_empty⟩
    rcases h with ⟨hb, _, _⟩ | ⟨_, h, _⟩ | ⟨_, _, h, _⟩
    · exfalso
      simp [badW, hg] at hb
    · omega
    · exact absurd h hf0
end Go.Proofs.YtjnggnhgambmkaaGreat

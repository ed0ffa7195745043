import Derived.Test.YtihkflcdphebmabRdO
import Derived.Defers
import Derived.Recover
set_option linter.unusedSimpArgs false
set_option linter.unusedVariables false
namespace Go.Proofs.Ytihkflcdphebmab
open Go.RowKit Go.Sort

theorem catch_idle (p q : Addr) (w : World) :
    CallsD Try.prog 70 #[.pointer (some p), .pointer (some q)] .returning w fun e u' w' => e = .returned (.tuple #[]) ∧ u' = .returning ∧ w' = w := by
  refine callsD_of_wpS Try.func70 rfl fun c₀ cs hu => ?_
  apply wpS_seq
  apply wpS_region
  simp [wpOpsS, go_sem, recoverD, hu, Try.ntmps70, Exit.thenS]
  apply wpS_seq
  apply wpS_seq
  apply wpS_region
  simp [wpOpsS, go_sem, Exit.thenS]
  refine wpS_cond (t := true) (by simp [Act.eval, Array.replicate]) ?_
  simp only [if_true]
  refine wpS_of_wp (wp_ret ?_)
  cases c₀
  simp_all [bodyPostS, results, Try.results70, Exit.thenS]
theorem Rd.made (w : World) (l : List UInt8) : Rd (w.alloc (.cells #[.string (bs l)] 101)) w.heap.size l := At1.alloc w 101 _
theorem bs_back (s : ByteArray) : bs s.data.toList = s := by simp [bs]
set_option maxHeartbeats 400000 in
set_option maxRecDepth 100000 in
theorem opened_yes {sch : Nat} {kind : Int} {l : List UInt8} {xs : List Val} {w : World} (hl : l.length ≤ 140737488355328) (hd : columnD l = some (sch, kind, xs)) :
    Calls Try.prog 54 #[.string (bs l)] w fun e w' => ∃ v, e = .returned (.tuple #[.agg #[.int .i64 (sch : Int), .int .i64 kind, v], .int .i64 0]) ∧ OwnV w' w.heap.size v xs ∧ Below w.heap.size w w' := by
  have hmf := makeFunc_run
  have HC : Hid (∀ o1 o2, Calls Try.prog 71 #[.pointer (some ⟨w.heap.size + 1 + 1, 0, none⟩)] (((w.alloc o1).alloc o2).alloc (.cells #[.string (bs l)] 101)) fun e w' => ∃ v, e = .returned (.agg #[.int .i64 (sch : Int), .int .i64 kind, v]) ∧ OwnV w' (w.heap.size + 1 + 1 + 1) v xs ∧ Gr (((w.alloc o1).alloc o2).alloc (.cells #[.string (bs l)] 101)) w' (w.heap.size + 1 + 1)) := fun o1 o2 => by
    have h := Rd.made ((w.alloc o1).alloc o2) l
    have e : ((w.alloc o1).alloc o2).heap.size = w.heap.size + 1 + 1 := by simp
    rw [e] at h
    have h2 := column_yes h hl hd
    have e2 : (((w.alloc o1).alloc o2).alloc (.cells #[.string (bs l)] 101)).heap.size = w.heap.size + 1 + 1 + 1 := by simp
    rw [e2] at h2
    exact h2
  have HX : Hid (∀ w1 o, Gr (((w.alloc (.cells #[.int .i64 0, .int .i64 0, .slice none 0 0] 86)).alloc (.cells #[.int .i64 0] 28)).alloc o) w1 (w.heap.size + 1 + 1) → w1.rowIs w.heap.size 86 3 (box86 (.int .i64 0) (.int .i64 0) (.slice none 0 0)) ∧ At1 w1 (w.heap.size + 1) 28 (.int .i64 0)) := fun w1 o hg => by
    refine ⟨row_grx (((box86_alloc w _ _ _).alloc _).alloc _) hg (by omega), ?_⟩
    have h := At1.alloc (w.alloc (.cells #[.int .i64 0, .int .i64 0, .slice none 0 0] 86)) 28 (.int .i64 0)
    have e : (w.alloc (.cells #[.int .i64 0, .int .i64 0, .slice none 0 0] 86)).heap.size = w.heap.size + 1 := by simp
    rw [e] at h
    exact (h.new o).gr hg (by omega)
  go_enter_defers Try.func54, Try.ntmps54
  go_wp2_with (go_at_call 71; refine (unhide HC _ _).mono ?_; rintro e w1 ⟨v1, rfl, ho1, hg1⟩; obtain ⟨a1, c1, rfl, _, _, _⟩ := ownV_slice ho1; obtain ⟨hx1, hx2⟩ := unhide HX w1 _ hg1; obtain ⟨p0, p1, p2, q0, q1, q2⟩ := box86_facts hx1; have y0 := hx2.cell; have z0 := World.rowIs.frozen hx2 0)
  refine leaves_cons (f := 70) (args := #[.pointer (some ⟨w.heap.size, 0, none⟩), .pointer (some ⟨w.heap.size + 1, 0, none⟩)]) (by simp) (by simp [go_sem]) ?_
  refine (catch_idle ⟨w.heap.size, 0, none⟩ ⟨w.heap.size + 1, 0, none⟩ _).mono ?_
  rintro e u' w'' ⟨rfl, rfl, rfl⟩
  have hz : w.heap.size + 1 + 1 + 1 ≤ w1.heap.size := by have := hg1.size; simpa using this
  have hb : Below w.heap.size w w1 := by
    refine ⟨hg1.os, hg1.tape, hg1.output, by omega, fun i hi => ?_⟩
    rw [hg1.block i (by simp; omega) (fun e => by injection e with e; omega), Below.heap_alloc _ _ _ (by simp; omega), Below.heap_alloc _ _ _ (by simp; omega), Below.heap_alloc _ _ _ hi]
  refine ⟨.tuple #[.agg #[.int .i64 (sch : Int), .int .i64 kind, .slice a1 xs.length c1], .int .i64 0], ?_, ⟨_, rfl, ?_, ?_⟩⟩
  · simp [results, Try.results54, go_sem, p0, p1, p2, y0]
  · exact own_base ((((ho1.putg (by omega) _).putg (by omega) _).putg (by omega) _).putg (by omega) _) (by omega)
  · exact (((hb.setCell (p := ⟨w.heap.size, 0, none⟩) (Nat.le_refl _) _).setCell (p := ⟨w.heap.size, 1, none⟩) (Nat.le_refl _) _).setCell (p := ⟨w.heap.size, 2, none⟩) (Nat.le_refl _) _).setCell (p := ⟨w.heap.size + 1, 0, none⟩) (by simp) _
end Go.Proofs.Ytihkflcdphebmab

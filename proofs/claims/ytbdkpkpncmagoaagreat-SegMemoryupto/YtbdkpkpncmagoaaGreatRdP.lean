import Derived.Test.YtbdkpkpncmagoaaGreatRdO
import Derived.Defers
import Derived.Recover
set_option linter.unusedSimpArgs false
set_option linter.unusedVariables false
namespace Go.Proofs.YtbdkpkpncmagoaaGreat
open Go.RowKit Go.Sort

theorem catch_idle (p q : Addr) (w : World) :
    CallsD Tryz.prog 85 #[.pointer (some p), .pointer (some q)] .returning w fun e u' w' => e = .returned (.tuple #[]) ∧ u' = .returning ∧ w' = w := by
  refine callsD_of_wpS Tryz.func85 rfl fun c₀ cs hu => ?_
  apply wpS_seq
  apply wpS_region
  simp [wpOpsS, go_sem, recoverD, hu, Tryz.ntmps85, Exit.thenS]
  apply wpS_seq
  apply wpS_seq
  apply wpS_region
  simp [wpOpsS, go_sem, Exit.thenS]
  refine wpS_cond (t := true) (by simp [Act.eval, Array.replicate]) ?_
  simp only [if_true]
  refine wpS_of_wp (wp_ret ?_)
  cases c₀
  simp_all [bodyPostS, results, Tryz.results85, Exit.thenS]
theorem Rd.made (w : World) (l : List UInt8) : Rd (w.alloc (.cells #[.string (bs l)] 133)) w.heap.size l := At1.alloc w 133 _
theorem bs_back (s : ByteArray) : bs s.data.toList = s := by simp [bs]
set_option maxHeartbeats 400000 in
set_option maxRecDepth 100000 in
theorem opened_yes {sch : Nat} {kind : Int} {l : List UInt8} {xs : List Val} {w : World} (hl : l.length ≤ 140737488355328) (hd : columnD l = some (sch, kind, xs)) :
    Calls Tryz.prog 71 #[.string (bs l)] w fun e w' => ∃ v, e = .returned (.tuple #[.agg #[.int .i64 (sch : Int), .int .i64 kind, v], .int .i64 0]) ∧ OwnV w' w.heap.size v xs ∧ Below w.heap.size w w' := by
  have hmf := makeFunc_run
  have HC : Hid (∀ o1 o2, Calls Tryz.prog 86 #[.pointer (some ⟨w.heap.size + 1 + 1, 0, none⟩)] (((w.alloc o1).alloc o2).alloc (.cells #[.string (bs l)] 133)) fun e w' => ∃ v, e = .returned (.agg #[.int .i64 (sch : Int), .int .i64 kind, v]) ∧ OwnV w' (w.heap.size + 1 + 1 + 1) v xs ∧ Gr (((w.alloc o1).alloc o2).alloc (.cells #[.string (bs l)] 133)) w' (w.heap.size + 1 + 1)) := fun o1 o2 => by
    have h := Rd.made ((w.alloc o1).alloc o2) l
    have e : ((w.alloc o1).alloc o2).heap.size = w.heap.size + 1 + 1 := by simp
    rw [e] at h
    have h2 := column_yes h hl hd
    have e2 : (((w.alloc o1).alloc o2).alloc (.cells #[.string (bs l)] 133)).heap.size = w.heap.size + 1 + 1 + 1 := by simp
    rw [e2] at h2
    exact h2
  have HX : Hid (∀ w1 o, Gr (((w.alloc (.cells #[.int .i64 0, .int .i64 0, .slice none 0 0] 117)).alloc (.cells #[.int .i64 0] 25)).alloc o) w1 (w.heap.size + 1 + 1) → w1.rowIs w.heap.size 117 3 (box86 (.int .i64 0) (.int .i64 0) (.slice none 0 0)) ∧ At1 w1 (w.heap.size + 1) 25 (.int .i64 0)) := fun w1 o hg => by
    refine ⟨row_grx (((box86_alloc w _ _ _).alloc _).alloc _) hg (by omega), ?_⟩
    have h := At1.alloc (w.alloc (.cells #[.int .i64 0, .int .i64 0, .slice none 0 0] 117)) 25 (.int .i64 0)
    have e : (w.alloc (.cells #[.int .i64 0, .int .i64 0, .slice none 0 0] 117)).heap.size = w.heap.size + 1 := by simp
    rw [e] at h
    exact (h.new o).gr hg (by omega)
  go_enter_defers Tryz.func71, Tryz.ntmps71
  go_wp2_with (go_at_call 86; refine (unhide HC _ _).mono ?_; rintro e w1 ⟨v1, rfl, ho1, hg1⟩; obtain ⟨a1, c1, rfl, _, _, _⟩ := ownV_slice ho1; obtain ⟨hx1, hx2⟩ := unhide HX w1 _ hg1; obtain ⟨p0, p1, p2, q0, q1, q2⟩ := box86_facts hx1; have y0 := hx2.cell; have z0 := World.rowIs.frozen hx2 0)
  refine leaves_cons (f := 85) (args := #[.pointer (some ⟨w.heap.size, 0, none⟩), .pointer (some ⟨w.heap.size + 1, 0, none⟩)]) (by simp) (by simp [go_sem]) ?_
  refine (catch_idle ⟨w.heap.size, 0, none⟩ ⟨w.heap.size + 1, 0, none⟩ _).mono ?_
  rintro e u' w'' ⟨rfl, rfl, rfl⟩
  have hz : w.heap.size + 1 + 1 + 1 ≤ w1.heap.size := by have := hg1.size; simpa using this
  have hb : Below w.heap.size w w1 := by
    refine ⟨hg1.os, hg1.tape, hg1.output, by omega, fun i hi => ?_⟩
    rw [hg1.block i (by simp; omega) (fun e => by injection e with e; omega), Below.heap_alloc _ _ _ (by simp; omega), Below.heap_alloc _ _ _ (by simp; omega), Below.heap_alloc _ _ _ hi]
  refine ⟨.tuple #[.agg #[.int .i64 (sch : Int), .int .i64 kind, .slice a1 xs.length c1], .int .i64 0], ?_, ⟨_, rfl, ?_, ?_⟩⟩
  · simp [results, Tryz.results71, go_sem, p0, p1, p2, y0]
  · exact own_base ((((ho1.putg (by omega) _).putg (by omega) _).putg (by omega) _).putg (by omega) _) (by omega)
  · exact (((hb.setCell (p := ⟨w.heap.size, 0, none⟩) (Nat.le_refl _) _).setCell (p := ⟨w.heap.size, 1, none⟩) (Nat.le_refl _) _).setCell (p := ⟨w.heap.size, 2, none⟩) (Nat.le_refl _) _).setCell (p := ⟨w.heap.size + 1, 0, none⟩) (by simp) _
end Go.Proofs.YtbdkpkpncmagoaaGreat
set_option linter.unusedSimpArgs false
set_option linter.unusedVariables false
namespace Go.Proofs.YtbdkpkpncmagoaaGreat
open Go.RowKit Go.Sort

theorem strict_not {W : List Val} (h : strictB W = false) : ∃ i x y, W[i]? = some x ∧ W[i + 1]? = some y ∧ decide (ordV x y < 0) = false := by
  unfold strictB at h
  rw [List.all_eq_false] at h
  obtain ⟨i, hi, hn⟩ := h
  rw [List.mem_range] at hi
  have h1 : i < W.length := by omega
  have h2 : i + 1 < W.length := by omega
  refine ⟨i, W[i], W[i + 1], List.getElem?_eq_getElem h1, List.getElem?_eq_getElem h2, ?_⟩
  simp only [List.getD_eq_getElem?_getD, List.getElem?_eq_getElem h1, List.getElem?_eq_getElem h2, Option.getD_some] at hn
  simpa using hn
abbrev S6 (w : World) (vb vo j k : Nat) (x y : Val) : Prop :=
  w.cell? ⟨vb, vo + j * 3, none⟩ = some (.int .i64 x.k) ∧ w.cell? ⟨vb, vo + j * 3 + 1, none⟩ = some (.int .i64 x.n) ∧ w.cell? ⟨vb, vo + j * 3 + 2, none⟩ = some (.string x.s) ∧
  w.cell? ⟨vb, vo + k * 3, none⟩ = some (.int .i64 y.k) ∧ w.cell? ⟨vb, vo + k * 3 + 1, none⟩ = some (.int .i64 y.n) ∧ w.cell? ⟨vb, vo + k * 3 + 2, none⟩ = some (.string y.s)
/-- It ends in damage. -/
def dieQ (G : World → Prop) : Exit → Act → World → Prop
  | .panic c, a, w => c = [{ v := .iface 130 (.agg #[]), recovered := false }] ∧ a.defers = [] ∧ G w
  | _, _, _ => False
theorem dieQ.to {G : World → Prop} {Q : Exit → Act → World → Prop} (h : ∀ a w, a.defers = [] → G w → Q (.panic [{ v := .iface 130 (.agg #[]), recovered := false }]) a w) : ∀ e a w, dieQ G e a w → Q e a w := fun e a w hd => by
  cases e with
  | panic c => obtain ⟨rfl, h0, hg⟩ := (show c = _ ∧ a.defers = [] ∧ G w from hd); exact h a w h0 hg
  | _ => exact (show False from hd).elim
theorem num2_lt {m : Nat} {l l1 : List UInt8} (hm : numD 2 l = some (m, l1)) : m < 65536 := by
  obtain ⟨g1, rfl, rfl⟩ := numD_some hm
  have := beV_lt (l.take 2)
  have h2 : (l.take 2).length = 2 := by rw [List.length_take]; omega
  rw [h2] at this; simpa using this
theorem num4_lt {m : Nat} {l l1 : List UInt8} (hm : numD 4 l = some (m, l1)) : m < 4294967296 := by
  obtain ⟨g1, rfl, rfl⟩ := numD_some hm
  have := beV_lt (l.take 4)
  have h2 : (l.take 4).length = 4 := by rw [List.length_take]; omega
  rw [h2] at this; simpa using this
theorem num1_lt {m : Nat} {l l1 : List UInt8} (hm : numD 1 l = some (m, l1)) : m < 256 := by
  obtain ⟨g1, rfl, rfl⟩ := numD_some hm
  have := beV_lt (l.take 1)
  have h2 : (l.take 1).length = 1 := by rw [List.length_take]; omega
  rw [h2] at this; simpa using this
theorem plains_y {b m : Nat} {kind : Int} {l1 l2 : List UInt8} {W : List Val} (hk : kind = 1 ∨ kind = 2) (hm : m ≤ 100000) (hl : l1.length ≤ 140737488355328) (hW : plainsD kind m l1 = some (W, l2)) (W2 : World) (hW2 : Rd W2 b l1) :
    Calls Tryz.prog 115 #[.pointer (some ⟨b, 0, none⟩), .int .i64 kind, .int .i64 m] W2 fun e w' => ∃ v, e = .returned v ∧ OwnV w' W2.heap.size v W ∧ Rd w' b l2 ∧ Gr W2 w' b := by
  have := plains_any b m kind l1 W2 hk hm hW2 hl
  rw [hW] at this
  refine this.mono ?_
  rintro e w' (⟨vs, r', v, he, h3, h4, h5, h6⟩ | ⟨he, _⟩)
  · injection he with he; injection he with e1 e2; subst e1; subst e2
    exact ⟨v, h3, h4, h5, h6⟩
  · cases he
theorem plains_n {b m : Nat} {kind : Int} {l1 : List UInt8} (hk : kind = 1 ∨ kind = 2) (hm : m ≤ 100000) (hl : l1.length ≤ 140737488355328) (hW : plainsD kind m l1 = none) (W2 : World) (hW2 : Rd W2 b l1) :
    Calls Tryz.prog 115 #[.pointer (some ⟨b, 0, none⟩), .int .i64 kind, .int .i64 m] W2 fun e w' => e = dmg ∧ Gr W2 w' b := by
  have := plains_any b m kind l1 W2 hk hm hW2 hl
  rw [hW] at this
  refine this.mono ?_
  rintro e w' (⟨vs, r', v, he, h3, h4, h5, h6⟩ | ⟨_, he, hg⟩)
  · cases he
  · exact ⟨he, hg⟩
set_option maxHeartbeats 400000 in
set_option maxRecDepth 100000 in
theorem words_no1 {b count : Nat} {kind : Int} {l : List UInt8} {w : World} (h : Rd w b l) (hl : l.length ≤ 140737488355328) (hm : numD 2 l = none) :
    Calls Tryz.prog 117 #[.pointer (some ⟨b, 0, none⟩), .int .i64 kind, .int .i64 count] w fun e w' => e = dmg ∧ Gr w w' b := by
  have HM := hide (numd_no h hl hm)
  clear h
  go_enter Tryz.func117, Tryz.ntmps117
  go_wp2_with (go_at_call 102; refine (unhide HM).mono ?_; rintro e w1 ⟨rfl, rfl⟩)
  exact ⟨rfl, rfl, Gr.refl _ _⟩
set_option maxHeartbeats 400000 in
set_option maxRecDepth 100000 in
theorem words_no2 {b count m : Nat} {kind : Int} {l l1 : List UInt8} {w : World} (hk : kind = 1 ∨ kind = 2) (h : Rd w b l) (hl : l.length ≤ 140737488355328) (hm : numD 2 l = some (m, l1)) (hW : plainsD kind m l1 = none) :
    Calls Tryz.prog 117 #[.pointer (some ⟨b, 0, none⟩), .int .i64 kind, .int .i64 count] w fun e w' => e = dmg ∧ Gr w w' b := by
  have hm2 := num2_lt hm
  have hl1 := numD_le hm
  have HN := hide (numd_yes h hl hm (by decide))
  have HP := hide (plains_n (b := b) hk (by omega) (by omega) hW)
  clear h hW
  go_enter Tryz.func117, Tryz.ntmps117
  go_wp2_with (first
    | (go_at_call 102; refine (unhide HN).mono ?_; rintro e w1 ⟨rfl, hr1, hg1⟩)
    | (go_at_call 115; refine (unhide HP _ hr1).mono ?_; rintro e w2 ⟨rfl, hg2⟩))
  exact ⟨rfl, rfl, hg1.trans hg2⟩
set_option maxHeartbeats 800000 in
set_option maxRecDepth 100000 in
theorem words_no3 {b count m : Nat} {kind : Int} {l l1 l2 : List UInt8} {W : List Val} {w : World} (hk : kind = 1 ∨ kind = 2) (h : Rd w b l) (hl : l.length ≤ 140737488355328)
    (hm : numD 2 l = some (m, l1)) (hW : plainsD kind m l1 = some (W, l2)) (hs : strictB W = false) :
    Calls Tryz.prog 117 #[.pointer (some ⟨b, 0, none⟩), .int .i64 kind, .int .i64 count] w fun e w' => e = dmg ∧ Gr w w' b := by
  have hm2 := num2_lt hm
  have hl1 := numD_le hm
  obtain ⟨hWl, hl2⟩ := plainsD_len hW
  have HN := hide (numd_yes h hl hm (by decide))
  have HP := hide (plains_y (b := b) hk (by omega) (by omega) hW)
  obtain ⟨K, X, Y, hX, hY, hXY⟩ := strict_not hs
  have hK : K + 1 < m := by
    obtain ⟨g, _⟩ := List.getElem?_eq_some_iff.1 hY
    omega
  have HBAD : Hid (∀ x y, W[K]? = some x → W[K + 1]? = some y → decide (ordV x y < 0) = false) := fun x y hx hy => by
    rw [hX] at hx; rw [hY] at hy
    injection hx with hx; injection hy with hy
    subst hx; subst hy; exact hXY
  have HWL := hide hWl
  clear h hW hs hWl hX hY hXY
  go_enter Tryz.func117, Tryz.ntmps117
  go_wp2_with (first
    | (go_at_call 102; refine (unhide HN).mono ?_; rintro e w1 ⟨rfl, hr1, hg1⟩)
    | (go_at_call 115; refine (unhide HP _ hr1).mono ?_; rintro e w2 ⟨v2, rfl, ho2, hr2, hg2⟩; obtain ⟨wa, wc, rfl, hwa1, hwa2, hrow2⟩ := ownV_slice ho2; rw [unhide HWL]))
  have HG2 := hide (hg1.trans hg2)
  have HROW := hide hrow2
  clear hg1 hg2 hr1 ho2 hrow2 hr2
  go_loopw [22] (fun i wr => ∃ k : Nat, k ≤ K + 1 ∧ i = .int .i64 (k : Int) ∧ Below w2.heap.size w2 wr) (fun i _ => m - (intOf i).toNat)
  case atStart => exact ⟨0, Nat.zero_le _, rfl, Below.refl _ _⟩
  case round =>
    obtain ⟨k, hkm, rfl, hbr⟩ := hrel
    have hlt : k < m := by omega
    have h9 : (k : Int) < (m : Int) := by omega
    have HBR := hide hbr
    by_cases hk0 : k = 0
    · subst hk0
      clear hbr
      go_wp2_with fail
      refine wp_region_quiet_below (by kernel_rfl) (by kernel_rfl) ?_
      repeat (go_big_quiet_step (first
        | (go_at_call 103; exact Calls.regrown_of (ensureB _ rfl _))))
      refine wpQuiet_nil ?_
      intro w' hw'
      have hB : Below wr.heap.size wr w' := by obtain ⟨p, rfl⟩ := hw'; exact below_regrown _ _ _
      clear hw'
      go_wp2
      go_roundw
      case rel => exact ⟨1, by omega, by go_num, below_step (unhide HBR) hB⟩
      case measure => simp [intOf]; omega
    · obtain ⟨j, hj⟩ : ∃ j, k = j + 1 := ⟨k - 1, by omega⟩
      obtain ⟨x, hx⟩ : ∃ x, W[j]? = some x := ⟨_, List.getElem?_eq_getElem (by rw [unhide HWL]; omega)⟩
      obtain ⟨y, hy⟩ : ∃ y, W[k]? = some y := ⟨_, List.getElem?_eq_getElem (by rw [unhide HWL]; omega)⟩
      have HLAST : Hid (k = K + 1 → decide (ordV x y < 0) = false) := fun e => by
        have ej : j = K := by omega
        exact unhide HBAD x y (by rw [← ej]; exact hx) (by rw [← e]; exact hy)
      obtain ⟨vb, vo, rfl, c0, c1, c2⟩ := ((unhide HROW).later hbr).lo hx
      obtain ⟨vb', vo', e, d0, d1, d2⟩ := ((unhide HROW).later hbr).lo hy
      injection e with e
      injection e with e1 e2
      subst e1; subst e2
      have ej : (k : Int) - 1 = (j : Int) := by omega
      have g0 : ((k : Int) == 0) = false := by simpa using hk0
      have hjm : (j : Int) < (m : Int) := by omega
      have HO := hide (order_o x y)
      generalize ordV x y = O at HLAST HO
      cases hO : decide (O < 0) with
      | true =>
        have hkK : k ≠ K + 1 := fun e => by have := unhide HLAST e; rw [hO] at this; cases this
        have HLT2 := hide hO
        have k0 := cell_regrown c0
        have k1 := cell_regrown c1
        have k2 := cell_regrown c2
        have k3 := cell_regrown d0
        have k4 := cell_regrown d1
        have k5 := cell_regrown d2
        clear c0 c1 c2 d0 d1 d2 hbr hx hy hj hk0 hO
        go_wp2_with fail
        refine wp_region_quiet_below (by kernel_rfl) (by kernel_rfl) ?_
        repeat (go_big_quiet_step (first
          | (go_at_call 73; exact Calls.regrown_of (unhide HO _))
          | (go_at_call 103; exact Calls.regrown_of (ensureB _ (unhide HLT2) _))))
        refine wpQuiet_nil ?_
        intro w' hw'
        have hB : Below wr.heap.size wr w' := by obtain ⟨p, rfl⟩ := hw'; exact below_regrown _ _ _
        clear hw'
        go_wp2
        go_roundw
        case rel => exact ⟨k + 1, by omega, by go_num, below_step (unhide HBR) hB⟩
        case measure => simp [intOf]; omega
      | false =>
        have HLT2 := hide hO
        have HS6 : Hid (∀ w3, Below wr.heap.size wr w3 → S6 w3 vb vo j k x y) := fun w3 hb3 => by
          have r3 := ((unhide HROW).later hbr).later hb3
          obtain ⟨_, _, e, c0, c1, c2⟩ := r3.lo hx
          injection e with e; injection e with e1 e2; subst e1; subst e2
          obtain ⟨_, _, e, d0, d1, d2⟩ := r3.lo hy
          injection e with e; injection e with e1 e2; subst e1; subst e2
          exact ⟨c0, c1, c2, d0, d1, d2⟩
        have S0 := unhide HS6 wr.drew (Below.refl _ _).drew
        have hwj : IntKind.i64.wrap (j : Int) = (j : Int) := by rw [IntKind.wrap_i64]; omega
        have hwj2 : wrap64 (j : Int) = (j : Int) := by unfold wrap64; omega
        have hj0 : (0 : Int) ≤ (j : Int) := by omega
        have hk1 : (0 : Int) ≤ (k : Int) := by omega
        clear hbr hx hy hj hk0 hO
        go_wp2_with fail
        refine Code.wp_mono (dieQ.to (G := fun w' => Below wr.heap.size wr w') fun a9 w9 h0 hb9 => ?_) ?_
        · have hG9 := (unhide HG2).trans ((Gr.of_below (unhide HBR) b).trans (Gr.of_below hb9 b))
          exact ⟨h0, rfl, hG9⟩
        refine wp_region_G (S := fun w' : World => S6 w' vb vo j k x y) (k := 15) (by kernel_rfl) ?_
        refine anyG_takel (i := 0) (v := (.int .i64 (k : Int))) [1, 2, 14, 15] rfl (by kernel_rfl) (by kernel_rfl) (by kernel_rfl) (by kernel_rfl) (fun _ _ _ h => h) (Or.inl ⟨by rfl, fun w' hSw => ?_⟩) S0 ?_
        · dsimp only at hSw; obtain ⟨q0, q1, q2, q3, q4, q5⟩ := hSw; go_simp
        try simp only [Act.put, List.setIfInBounds_toArray, List.set_cons_zero, List.set_cons_succ]
        refine anyG_takel (i := 1) (v := (.bool false)) [2, 14, 15] rfl (by kernel_rfl) (by kernel_rfl) (by kernel_rfl) (by kernel_rfl) (fun _ _ _ h => h) (Or.inl ⟨by rfl, fun w' hSw => ?_⟩) S0 ?_
        · dsimp only at hSw; obtain ⟨q0, q1, q2, q3, q4, q5⟩ := hSw; go_simp
        try simp only [Act.put, List.setIfInBounds_toArray, List.set_cons_zero, List.set_cons_succ]
        refine anyG_takel (i := 2) (v := (.bool false)) [14, 15] rfl (by kernel_rfl) (by kernel_rfl) (by kernel_rfl) (by kernel_rfl) (fun _ _ _ h => h) (Or.inl ⟨by rfl, fun w' hSw => ?_⟩) S0 ?_
        · dsimp only at hSw; obtain ⟨q0, q1, q2, q3, q4, q5⟩ := hSw; go_simp
        try simp only [Act.put, List.setIfInBounds_toArray, List.set_cons_zero, List.set_cons_succ]
        refine anyG_takel (i := 3) (v := (.slice (some ⟨vb, vo, none⟩) m wc)) [6, 7, 12, 13, 14, 15] rfl (by kernel_rfl) (by kernel_rfl) (by kernel_rfl) (by kernel_rfl) (fun _ _ _ h => h) (Or.inl ⟨by rfl, fun w' hSw => ?_⟩) S0 ?_
        · dsimp only at hSw; obtain ⟨q0, q1, q2, q3, q4, q5⟩ := hSw; go_simp
        try simp only [Act.put, List.setIfInBounds_toArray, List.set_cons_zero, List.set_cons_succ]
        refine anyG_takel (i := 4) (v := (.int .i64 (k : Int))) [5, 6, 7, 12, 13, 14, 15] rfl (by kernel_rfl) (by kernel_rfl) (by kernel_rfl) (by kernel_rfl) (fun _ _ _ h => h) (Or.inl ⟨by rfl, fun w' hSw => ?_⟩) S0 ?_
        · dsimp only at hSw; obtain ⟨q0, q1, q2, q3, q4, q5⟩ := hSw; go_simp
        try simp only [Act.put, List.setIfInBounds_toArray, List.set_cons_zero, List.set_cons_succ]
        refine anyG_takel (i := 5) (v := (.int .i64 (j : Int))) [6, 7, 12, 13, 14, 15] rfl (by kernel_rfl) (by kernel_rfl) (by kernel_rfl) (by kernel_rfl) (fun _ _ _ h => h) (Or.inl ⟨by rfl, fun w' hSw => ?_⟩) S0 ?_
        · dsimp only at hSw; obtain ⟨q0, q1, q2, q3, q4, q5⟩ := hSw; go_simp
        try simp only [Act.put, List.setIfInBounds_toArray, List.set_cons_zero, List.set_cons_succ]
        refine anyG_takel (i := 6) (v := (.pointer (some ⟨vb, vo + j * 3, none⟩))) [7, 12, 13, 14, 15] rfl (by kernel_rfl) (by kernel_rfl) (by kernel_rfl) (by kernel_rfl) (fun _ _ _ h => h) (Or.inl ⟨by rfl, fun w' hSw => ?_⟩) S0 ?_
        · dsimp only at hSw; obtain ⟨q0, q1, q2, q3, q4, q5⟩ := hSw; go_simp
        try simp only [Act.put, List.setIfInBounds_toArray, List.set_cons_zero, List.set_cons_succ]
        refine anyG_takel (i := 7) (v := (.agg #[.int .i64 x.k, .int .i64 x.n, .string x.s])) [12, 13, 14, 15] rfl (by kernel_rfl) (by kernel_rfl) (by kernel_rfl) (by kernel_rfl) (fun _ _ _ h => h) (Or.inl ⟨by rfl, fun w' hSw => ?_⟩) S0 ?_
        · dsimp only at hSw; obtain ⟨q0, q1, q2, q3, q4, q5⟩ := hSw; go_simp
        try simp only [Act.put, List.setIfInBounds_toArray, List.set_cons_zero, List.set_cons_succ]
        refine anyG_takel (i := 8) (v := (.slice (some ⟨vb, vo, none⟩) m wc)) [10, 11, 12, 13, 14, 15] rfl (by kernel_rfl) (by kernel_rfl) (by kernel_rfl) (by kernel_rfl) (fun _ _ _ h => h) (Or.inl ⟨by rfl, fun w' hSw => ?_⟩) S0 ?_
        · dsimp only at hSw; obtain ⟨q0, q1, q2, q3, q4, q5⟩ := hSw; go_simp
        try simp only [Act.put, List.setIfInBounds_toArray, List.set_cons_zero, List.set_cons_succ]
        refine anyG_takel (i := 9) (v := (.int .i64 (k : Int))) [10, 11, 12, 13, 14, 15] rfl (by kernel_rfl) (by kernel_rfl) (by kernel_rfl) (by kernel_rfl) (fun _ _ _ h => h) (Or.inl ⟨by rfl, fun w' hSw => ?_⟩) S0 ?_
        · dsimp only at hSw; obtain ⟨q0, q1, q2, q3, q4, q5⟩ := hSw; go_simp
        try simp only [Act.put, List.setIfInBounds_toArray, List.set_cons_zero, List.set_cons_succ]
        refine anyG_takel (i := 10) (v := (.pointer (some ⟨vb, vo + k * 3, none⟩))) [11, 12, 13, 14, 15] rfl (by kernel_rfl) (by kernel_rfl) (by kernel_rfl) (by kernel_rfl) (fun _ _ _ h => h) (Or.inl ⟨by rfl, fun w' hSw => ?_⟩) S0 ?_
        · dsimp only at hSw; obtain ⟨q0, q1, q2, q3, q4, q5⟩ := hSw; go_simp
        try simp only [Act.put, List.setIfInBounds_toArray, List.set_cons_zero, List.set_cons_succ]
        refine anyG_takel (i := 11) (v := (.agg #[.int .i64 y.k, .int .i64 y.n, .string y.s])) [12, 13, 14, 15] rfl (by kernel_rfl) (by kernel_rfl) (by kernel_rfl) (by kernel_rfl) (fun _ _ _ h => h) (Or.inl ⟨by rfl, fun w' hSw => ?_⟩) S0 ?_
        · dsimp only at hSw; obtain ⟨q0, q1, q2, q3, q4, q5⟩ := hSw; go_simp
        try simp only [Act.put, List.setIfInBounds_toArray, List.set_cons_zero, List.set_cons_succ]
        clear S0
        refine anyG_one (i := 12) (by kernel_rfl) ?_
        refine wpOp_lit rfl (by rfl) fun K hK => ?_
        go_simp
        refine (unhide HO _).mono ?_
        rintro e w3 ⟨rfl, hb3⟩
        go_simp
        refine unhide hK _ _ ⟨fun _ => unhide HS6 w3 (below_step (Below.refl _ _).drew hb3), ?_⟩
        clear hK K
        refine anyG_one (i := 13) (by kernel_rfl) ?_
        refine wpOp_lit rfl (by rfl) fun K hK => ?_
        go_simp
        refine unhide hK _ _ ⟨fun _ => unhide HS6 w3 (below_step (Below.refl _ _).drew hb3), ?_⟩
        clear hK K
        refine anyG_one (i := 14) (by kernel_rfl) ?_
        refine wpOp_lit rfl (by rfl) fun K hK => ?_
        go_simp
        refine unhide hK _ _ ⟨fun _ => unhide HS6 w3 (below_step (Below.refl _ _).drew hb3), ?_⟩
        clear hK K
        refine anyG_one (i := 15) (by kernel_rfl) ?_
        refine wpOp_lit rfl (by rfl) fun K hK => ?_
        go_simp
        refine (ensureF _ (unhide HLT2) _).mono ?_
        rintro e w4 ⟨rfl, rfl⟩
        exact ⟨rfl, rfl, below_step (Below.refl _ _).drew hb3⟩
end Go.Proofs.YtbdkpkpncmagoaaGreat

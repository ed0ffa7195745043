import Derived.Test.YtcbenpodohjbiaaGreatSqB
import Derived.Test.YtcbenpodohjbiaaGreatSpT
import Derived.Test.YtcbenpodohjbiaaGreatCoB
set_option linter.unusedSimpArgs false
set_option linter.unusedVariables false
set_option maxRecDepth 100000
namespace Go.Proofs.YtcbenpodohjbiaaGreat
open Go.RowKit Go.Sort

/-- An iterator in block r over the map in block mb, whose keys are ks; todo: what has not come yet. -/
def RgI (w : World) (mb r : Nat) (ks todo : List Nat) : Prop :=
  ∃ es clk seen c0, w.heap[mb]? = some (.map es clk) ∧ EsI es clk ks ∧ w.heap[r]? = some (.mapIter (some mb) clk seen c0) ∧ clk ≤ c0 ∧ EntsI (leftOf es seen).toList todo
/-- The same, behind a step: q has come. -/
def RgJ (w : World) (mb r : Nat) (ks todo : List Nat) (q : Nat) : Prop :=
  ∃ (es : Array MapEntry) (clk : Nat) (seen : Array Nat) (e : MapEntry), w.heap[mb]? = some (.map es clk) ∧ EsI es clk ks ∧ w.heap[r]? = some (.mapIter (some mb) clk (seen.push e.born) clk) ∧ e ∈ es.toList ∧ e.key = .int .i64 (q : Nat) ∧ e.val = .agg #[] ∧ EntsI (leftOf es (seen.push e.born)).toList todo
theorem RgJ.rg {w : World} {mb r : Nat} {ks todo : List Nat} {q : Nat} (h : RgJ w mb r ks todo q) : RgI w mb r ks todo := by
  obtain ⟨es, clk, seen, e, h1, h2, h3, _, _, _, h7⟩ := h
  exact ⟨es, clk, _, clk, h1, h2, h3, Nat.le_refl _, h7⟩
theorem RgI.lt {w : World} {mb r : Nat} {ks todo : List Nat} (h : RgI w mb r ks todo) : mb < w.heap.size ∧ r < w.heap.size := by
  obtain ⟨es, clk, seen, c0, h1, _, h3, _⟩ := h
  exact ⟨(Array.getElem?_eq_some_iff.1 h1).1, (Array.getElem?_eq_some_iff.1 h3).1⟩
theorem RgI.keep {w w' : World} {mb r : Nat} {ks todo : List Nat} (h : RgI w mb r ks todo) (h1 : w'.heap[mb]? = w.heap[mb]?) (h2 : w'.heap[r]? = w.heap[r]?) : RgI w' mb r ks todo := by
  obtain ⟨es, clk, seen, c0, q1, q2, q3, q4⟩ := h
  exact ⟨es, clk, seen, c0, by rw [h1]; exact q1, q2, by rw [h2]; exact q3, q4⟩
theorem RgI.ne {w : World} {mb r : Nat} {ks todo : List Nat} (h : RgI w mb r ks todo) : w.heap[mb]? ≠ w.heap[r]? := by
  obtain ⟨es, clk, seen, c0, q1, _, q3, _⟩ := h
  rw [q1, q3]; intro e; cases e
/-- How many are left. -/
def rgLeft (w : World) (mb r : Nat) : Nat := match w.heap[mb]?, w.heap[r]? with
  | some (.map es _), some (.mapIter _ _ seen _) => (leftOf es seen).size
  | _, _ => 0
theorem RgI.left {w : World} {mb r : Nat} {ks todo : List Nat} (h : RgI w mb r ks todo) : rgLeft w mb r = todo.length := by
  obtain ⟨es, clk, seen, c0, q1, _, q3, _, q5⟩ := h
  unfold rgLeft
  rw [q1, q3]
  have := congrArg List.length q5
  simpa using this
theorem rangeI_run {W : World} {mb : Nat} {ks : List Nat} (h : MpI W mb ks) :
    ∃ o, (Instr.range 80 (.map (some mb))).run Tryz.prog W = .ok (.pointer (some ⟨W.heap.size, 0, none⟩)) (W.alloc o) ∧ RgI (W.alloc o) mb W.heap.size ks ks := by
  have hlt := h.lt
  obtain ⟨es, clk, hh, he⟩ := h
  refine ⟨.mapIter (some mb) clk #[] clk, ?_, es, clk, #[], clk, ?_, he, ?_, Nat.le_refl _, ?_⟩
  · unfold Instr.range
    simp only [Sem.run_bind, run_underlying Tryz.underlying80, Result.andThen_ok, get_map hh, Sem.run_pure]
    rfl
  · rw [(below_alloc (Below.refl _ W) _).block mb hlt]; exact hh
  · exact heap_alloc_new _ _
  · have : (leftOf es #[]) = es := by unfold leftOf; simp
    rw [this]; exact he.ents
theorem entsI_split {l1 l2 : List MapEntry} {e : MapEntry} {todo : List Nat} (h : EntsI (l1 ++ e :: l2) todo) : ∃ pre q post, todo = pre ++ q :: post ∧ e.key = .int .i64 (q : Nat) ∧ e.val = .agg #[] ∧ EntsI (l1 ++ l2) (pre ++ post) := by
  unfold EntsI at h ⊢
  rw [List.map_append, List.map_cons] at h
  have hs := h.symm
  rw [List.map_eq_append_iff] at hs
  obtain ⟨pre, r, rfl, h1, h2⟩ := hs
  rw [List.map_eq_cons_iff] at h2
  obtain ⟨q, post, rfl, h3, h4⟩ := h2
  simp only [Prod.mk.injEq] at h3
  exact ⟨pre, q, post, rfl, h3.1.symm, h3.2.symm, by rw [List.map_append, List.map_append, h1, h4]⟩
theorem nextI_run {w : World} {mb r : Nat} {ks todo : List Nat} (h : RgI w mb r ks todo) (ty : TypeId) :
    (todo = [] ∧ (Instr.next (.pointer (some ⟨r, 0, none⟩)) false ty).run Tryz.prog w = .ok (.tuple #[.bool false]) w) ∨
    ∃ pre q post w1 o, todo = pre ++ q :: post ∧ (w1 = w ∨ w1 = w.drew) ∧ (Instr.next (.pointer (some ⟨r, 0, none⟩)) false ty).run Tryz.prog w = .ok (.tuple #[.bool true, .int .i64 (q : Nat), .agg #[]]) (putO w1 r o) ∧ RgJ (putO w1 r o) mb r ks (pre ++ post) q := by
  have hne := h.ne
  obtain ⟨hlm, hlr⟩ := h.lt
  obtain ⟨es, clk, seen, c0, q1, q2, q3, q4, q5⟩ := h
  rcases run_next_at (P := Tryz.prog) w ty r mb clk c0 seen es clk q3 q1 q2.old q4 with ⟨h0, hr⟩ | ⟨e, he, w1, hw1, hr⟩
  · left
    refine ⟨?_, hr⟩
    have := congrArg List.length q5
    rw [List.length_map, List.length_map, Array.length_toList, h0] at this
    exact List.eq_nil_of_length_eq_zero this.symm
  · right
    obtain ⟨l1, l2, hl⟩ := List.append_of_mem he
    have hes : e ∈ es.toList := by
      have : e ∈ (leftOf es seen).toList := he
      unfold leftOf at this
      simp at this ⊢
      exact this.1
    have q5' := q5
    rw [hl] at q5'
    obtain ⟨pre, q, post, e1, e2, e3, e4⟩ := entsI_split q5'
    have hmr : mb ≠ r := fun e => hne (by rw [e])
    have hlr1 : r < w1.heap.size := by rcases hw1 with rfl | rfl <;> exact hlr
    have hm1 : w1.heap[mb]? = w.heap[mb]? := by rcases hw1 with rfl | rfl <;> rfl
    refine ⟨pre, q, post, w1, .mapIter (some mb) clk (seen.push e.born) clk, e1, hw1, ?_, es, clk, seen, e, ?_, q2, putO_at hlr1, hes, e2, e3, ?_⟩
    · rw [hr, e2, e3]; rfl
    · rw [putO_ne hmr, hm1]; exact q1
    · have hlf : (leftOf es (seen.push e.born)).toList = l1 ++ l2 := by
        have h1 : (leftOf es (seen.push e.born)).toList = (leftOf es seen).toList.filter (fun y => !(y.born == e.born)) := by
          unfold leftOf
          rw [Array.toList_filter, Array.toList_filter, List.filter_filter]
          refine List.filter_congr fun y _ => ?_
          simp only [Array.contains_push]
          cases seen.contains y.born <;> cases (e.born == y.born) <;> cases hz : (y.born == e.born) <;> simp_all
        rw [h1, hl, List.filter_append, List.filter_cons_of_neg (by simp)]
        have hnd : ((leftOf es seen).toList.map (·.born)).Nodup := by
          refine q2.once.sublist (List.Sublist.map _ ?_)
          unfold leftOf
          rw [Array.toList_filter]
          exact List.filter_sublist
        rw [hl, List.map_append, List.map_cons, List.nodup_append] at hnd
        obtain ⟨n1, n2, n3⟩ := hnd
        rw [List.nodup_cons] at n2
        congr 1
        · rw [List.filter_eq_self]
          intro y hy
          simp only [Bool.not_eq_true', beq_eq_false_iff_ne]
          exact n3 _ (List.mem_map.2 ⟨y, hy, rfl⟩) _ List.mem_cons_self
        · rw [List.filter_eq_self]
          intro y hy
          simp only [Bool.not_eq_true', beq_eq_false_iff_ne]
          exact fun e' => n2.1 (List.mem_map.2 ⟨y, hy, e'⟩)
      rw [hlf]; exact e4
theorem entryI_run {w : World} {mb r : Nat} {ks todo : List Nat} {q : Nat} (h : RgJ w mb r ks todo q) : (Instr.entry (.pointer (some ⟨r, 0, none⟩))).run Tryz.prog w = .ok (.tuple #[.int .i64 (q : Nat), .agg #[]]) w := by
  obtain ⟨es, clk, seen, e, q1, q2, q3, q4, q5, q6, q7⟩ := h
  have := run_entry_at (P := Tryz.prog) w r mb clk seen es clk e q3 q1 q4 q2.once
  rw [this, q5, q6]
theorem below_putO {W7 wr : World} {sb : Nat} {o : Obj} (h : Below W7.heap.size W7 wr) (hn : W7.heap.size ≤ sb) : Below W7.heap.size W7 (putO wr sb o) :=
  ⟨h.os, h.tape, h.output, by have := h.size; simp [putO]; omega, fun k hk => by rw [putO_ne (by omega)]; exact h.block k hk⟩
/-- Some runs are dropped. -/
structure Lvd (ids : List Nat) (Y Y' : Yv) : Prop where
  rd : Y'.rd = Y.rd
  rf : Y'.rf = Y.rf
  cd : Y'.cd = Y.cd
  held : Y'.held = Y.held
  most : Y'.most = Y.most
  puts : Y'.puts = Y.puts
  calls : Y'.calls = Y.calls
  out : Y'.out = Y.out
  len : Y'.there.length = Y.there.length
  runs : Y'.runs.length = Y.runs.length
  th : ∀ i, Y'.there[i]? = if i ∈ ids ∧ i < Y.there.length then some false else Y.there[i]?
theorem Lvd.start (Y : Yv) : Lvd [] Y Y := ⟨rfl, rfl, rfl, rfl, rfl, rfl, rfl, rfl, rfl, rfl, fun i => by simp⟩
theorem Lvd.more {ids : List Nat} {Y Y1 : Yv} (h : Lvd ids Y Y1) (i : Nat) : Lvd (ids ++ [i]) Y (Y1.drop i) := by
  refine ⟨h.rd, h.rf, h.cd, h.held, h.most, h.puts, h.calls, h.out, ?_, ?_, fun j => ?_⟩
  · show (Y1.there.set i false).length = _; rw [List.length_set]; exact h.len
  · show (Y1.runs.set i []).length = _; rw [List.length_set]; exact h.runs
  · show (Y1.there.set i false)[j]? = _
    rw [List.getElem?_set, h.th j, h.len]
    by_cases e : i = j
    · subst e
      rw [if_pos rfl]
      by_cases e2 : i < Y.there.length
      · rw [if_pos e2, if_pos ⟨by simp, e2⟩]
      · rw [if_neg e2, if_neg (fun q => e2 q.2), List.getElem?_eq_none (by omega)]
    · rw [if_neg e]
      have e3 : (j ∈ ids ++ [i]) ↔ j ∈ ids := by
        simp
        intro e4
        exact absurd e4.symm e
      simp only [e3]
theorem RgI.app {w w' : World} {base mb r : Nat} {ks todo : List Nat} (h : RgI w mb r ks todo) (hb : Below base w w') (h1 : mb < base) (h2 : r < base) : RgI w' mb r ks todo := h.keep (hb.block _ h1) (hb.block _ h2)

/-- What leave answers. -/
def LeaveP (w : World) (b y m : Nat) (Y : Yv) (F : Nat → Prop) (c : Int) (e : Ending) (w' : World) : Prop := ∃ Y', e = .returned (.int .i64 c) ∧ Yo w w' b y m Y' none F ∧ (∀ t ∈ Y'.there, t = false) ∧ ∃ ids, Lvd ids Y Y'
theorem nodup_lt : ∀ (n : Nat) (l : List Nat), l.Nodup → (∀ x ∈ l, x < n) → l.length ≤ n
  | 0, l, _, h => by
    cases l with
    | nil => simp
    | cons x t => have := h x (by simp); omega
  | n + 1, l, hd, h => by
    by_cases hm : n ∈ l
    · have h1 := nodup_lt n (l.erase n) (hd.erase n) (fun x hx => by
        have h2 := hd.mem_erase_iff.1 hx
        have := h x h2.2
        omega)
      rw [List.length_erase_of_mem hm] at h1
      omega
    · have := nodup_lt n l hd (fun x hx => by
        have := h x hx
        have : x ≠ n := fun e => hm (e ▸ hx)
        omega)
      omega
theorem nat_list {L : List Nat} {M : List Int} (h : M.Perm (L.map fun (i : Nat) => (i : Int))) : ∃ L2 : List Nat, M = L2.map (fun (i : Nat) => (i : Int)) ∧ L2.Perm L := by
  refine ⟨M.map Int.toNat, ?_, ?_⟩
  · rw [List.map_map]
    have e : ∀ x ∈ M, ((fun (i : Nat) => (i : Int)) ∘ Int.toNat) x = x := fun x hx => by
      obtain ⟨j, _, rfl⟩ := List.mem_map.1 (h.mem_iff.1 hx)
      simp
    have := List.map_congr_left e
    rw [this]
    simp
  · have := h.map Int.toNat
    rw [List.map_map] at this
    have e : L.map (Int.toNat ∘ fun (i : Nat) => (i : Int)) = L := by
      have : ∀ x ∈ L, (Int.toNat ∘ fun (i : Nat) => (i : Int)) x = x := fun x _ => by simp
      rw [List.map_congr_left this]
      simp
    rw [e] at this
    exact this

set_option maxHeartbeats 8000000 in
/-- leave (20). -/
theorem leave_any {F : Nat → Prop} {b y m : Nat} {Y : Yv} {w : World} (c : Int) (h : Yw w b y m Y none F) (hn : Y.runs.length ≤ 1000000) :
    Calls Tryz.prog 20 #[.pointer (some ⟨y, 0, none⟩), .int .i64 c] w fun e w' => LeaveP w b y m Y F c e w' := by
  have hyF := h.1
  have hYw := h.cut
  have hlen := h.len
  obtain ⟨h1, h2, F0, ks, h3, h4, h5, h6, h7⟩ := h
  have c1 := h6.c1
  obtain ⟨o, hrg, hR⟩ := rangeI_run h6.mp
  have hml : m < w.heap.size := h6.mp.lt
  have hkl : ∀ k ∈ ks, k < Y.there.length := fun k hk => (List.getElem?_eq_some_iff.1 ((h7.2 k).1 hk)).1
  have hksl : ks.length ≤ Y.there.length := nodup_lt _ _ h7.1 hkl
  have HH := hide hYw
  have H7 := hide h7
  obtain ⟨Z, hZ⟩ : ∃ Z, w.alloc o = Z := ⟨_, rfl⟩
  have hZs : Z.heap.size = w.heap.size + 1 := by rw [← hZ]; simp
  have hZB : Below w.heap.size w Z := by rw [← hZ]; exact below_alloc (Below.refl _ _) _
  have HZB := hide hZB
  rw [hZ] at hrg hR
  obtain ⟨rb, hrb⟩ : ∃ rb, w.heap.size = rb := ⟨_, rfl⟩
  rw [hrb] at hrg hR
  have HRB := hide hrb
  have HR0 := hide hR
  have hmr : m < rb := by omega
  have HS0 : Hid (rb + 1 ≤ Z.heap.size) := by show _ ≤ _; omega
  have HO0 : Hid (OwnI Z (rb + 1) (.slice none 0 0) (([] : List Nat).map fun (i : Nat) => (i : Int))) := World.ownsRow_nil _ _ _ _
  have HKS := hide hksl
  clear h5 h6 h7 hYw hR hkl hZ h3 hZs hZB hrb hksl
  go_enter Tryz.func20, Tryz.ntmps20
  go_wp2_with fail
  go_loopw [5] (fun s5 wq => ∃ (L todo : List Nat), Hid (RgI wq m rb ks todo) ∧ Hid (Below w.heap.size w wq ∧ rb + 1 ≤ wq.heap.size) ∧ Hid (OwnI wq (rb + 1) s5 (L.map fun (i : Nat) => (i : Int))) ∧ Hid ((L ++ todo).Perm ks)) (fun _ wq => rgLeft wq m rb)
  case atStart => exact ⟨[], ks, HR0, ⟨unhide HZB, unhide HS0⟩, HO0, List.Perm.refl _⟩
  case round =>
    obtain ⟨L, todo, HR, HB, HO, HP⟩ := hrel
    rename Value => v5
    obtain ⟨a5, c5, e5⟩ := OwnI.slice (unhide HO)
    rw [List.length_map] at e5
    subst e5
    clear HR0 HZB hrg HO0
    rcases nextI_run (unhide HR) 0 with ⟨e, hnx⟩ | ⟨pre, q, post, w1, o', e, hw1, hnx, hE⟩
    · subst e
      have hPk := unhide HP
      rw [List.append_nil] at hPk
      have hLl : L.length ≤ 1000000 := by rw [hPk.length_eq]; have := unhide HKS; omega
      have hIs := isort_any (rb + 1) (L.map fun (i : Nat) => (i : Int)) (.slice a5 L.length c5) wr (by rw [List.length_map]; omega) (unhide HO) (unhide HB).2
      obtain ⟨L2, eL2, pL2⟩ := nat_list (List.mergeSort_perm (L.map fun (i : Nat) => (i : Int)) (fun x y => decide (x ≤ y)))
      rw [eL2] at hIs
      have HIS := hide hIs
      have hL2k : L2.Perm ks := pL2.trans hPk
      have hL2n : L2.length = L.length := pL2.length_eq
      have HL2K := hide hL2k
      have HL2N := hide hL2n
      obtain ⟨N, hN⟩ : ∃ N, L.length = N := ⟨_, rfl⟩
      rw [hN] at HIS HL2N hLl ⊢
      clear hIs eL2 pL2 hPk hL2k hL2n HP HO HR hN
      go_upto_region 7 with (first | (go_at_call 36; refine (unhide HIS).mono ?_; rintro _ w3 ⟨rfl, hO3, hb3⟩; have HO3 := hide hO3; have HB3 := hide hb3; clear hO3 hb3))
      have hwb : Below w.heap.size w w3 := (unhide HB).1.trans ((unhide HB3).mono (by have := unhide HRB; omega))
      have hYA := (unhide HH).later hwb
      have HI0 : Hid (Lvd (L2.take 0) Y Y ∧ Yo w3 w3 b y m Y none (fun k => F k ∧ k < w.heap.size)) := ⟨Lvd.start Y, _, Nw.refl _ _, fun _ q => q, hYA, Ky.refl _ _⟩
      have HWB := hide hwb
      have hs3 : w.heap.size ≤ w3.heap.size := hwb.size
      clear hYA hwb
      go_wp2_with fail
      go_loopw [27, 1] (fun s27 s1 wx => s1 = .int .i64 c ∧ ∃ (k : Nat) (Yk : Yv), k ≤ N ∧ s27 = .int .i64 (k : Int) ∧ Hid (Lvd (L2.take k) Y Yk ∧ Yo w3 wx b y m Yk none (fun k => F k ∧ k < w.heap.size))) (fun s27 _ _ => N - (intOf s27).toNat)
      case atStart => exact ⟨rfl, 0, Y, Nat.zero_le _, rfl, HI0⟩
      case round =>
        obtain ⟨rfl, k, Yk, hk, rfl, HI⟩ := hrel
        obtain ⟨hLv, F1, n1, m1, y1, k1⟩ := unhide HI
        by_cases hlt : k < N
        · have i1 : (k : Int) < (N : Int) := by omega
          obtain ⟨i, hi⟩ : ∃ i, L2[k]? = some i := ⟨_, List.getElem?_eq_getElem (by have := unhide HL2N; omega)⟩
          have hOx : OwnI wr (rb + 1) (.slice a5 N c5) (L2.map fun (i : Nat) => (i : Int)) := own_ky (unhide HO3) k1 (fun g e z => by
            have h1 := (World.ownsRow.lt (unhide HO3) g e).1
            have h2 := z.2
            have h3 := unhide HRB
            omega)
          have hLi : (L2.map fun (i : Nat) => (i : Int))[k]? = some (i : Int) := by rw [List.getElem?_map, hi]; rfl
          obtain ⟨gl, ol, ea, d0⟩ := (OwnI.ints hOx).get hLi
          have hnd : L2.Nodup := (unhide HL2K).nodup_iff.2 (unhide H7).1
          have hnot : i ∉ L2.take k := fun z => by
            obtain ⟨j, hj⟩ := List.getElem?_of_mem z
            have hjk : j < k := by have := (List.getElem?_eq_some_iff.1 hj).1; rw [List.length_take] at this; omega
            rw [List.getElem?_take, if_pos hjk] at hj
            have hjl : j < L2.length := by have := unhide HL2N; omega
            have := (List.getElem?_inj hjl hnd).1 (hj.trans hi.symm)
            omega
          have hth : Yk.there[i]? = some true := by
            rw [hLv.th i, if_neg (fun z => hnot z.1)]
            exact ((unhide H7).2 i).1 ((unhide HL2K).mem_iff.1 (List.mem_of_getElem? hi))
          have HD := hide (ydrop_any (i := i) y1 hth (by rw [hLv.runs]; omega))
          have HX := hide hi
          rw [ea]
          have HM1 := hide m1
          clear hOx hLi hnd hnot hth hi hLv y1 m1
          by_cases hc0 : c = 0
          · have ec : (c == 0) = true := by simpa using hc0
            have HC0 := hide hc0
            clear hc0
            go_wp2_with (first | (go_at_call 37; refine (unhide HD).mono ?_; rintro _ w4 ⟨rfl, hY4⟩; have HY4 := hide hY4; clear hY4))
            go_roundw
            case rel =>
              obtain ⟨F2, n2, m2, y2, k2⟩ := unhide HY4
              refine ⟨by rw [unhide HC0], k + 1, Yk.drop i, by omega, by go_num, ?_, F2, n1.trans n2 k1.size, fun j e => m2 j ?_, y2, k1.trans k2 n1⟩
              · rw [List.take_add_one, unhide HX]
                exact (unhide HI).1.more i
              · exact unhide HM1 j e
            case measure => simp [intOf]; omega
          · have ec : (c == 0) = false := by simpa using hc0
            clear hc0
            go_wp2_with (first | (go_at_call 37; refine (unhide HD).mono ?_; rintro _ w4 ⟨rfl, hY4⟩; have HY4 := hide hY4; clear hY4))
            go_roundw
            case rel =>
              obtain ⟨F2, n2, m2, y2, k2⟩ := unhide HY4
              refine ⟨rfl, k + 1, Yk.drop i, by omega, by go_num, ?_, F2, n1.trans n2 k1.size, fun j e => m2 j ?_, y2, k1.trans k2 n1⟩
              · rw [List.take_add_one, unhide HX]
                exact (unhide HI).1.more i
              · exact unhide HM1 j e
            case measure => simp [intOf]; omega
        · have i1 : ¬ (k : Int) < (N : Int) := by omega
          have hke : k = L2.length := by have := unhide HL2N; omega
          have HKE := hide hke
          clear hke hLv n1 m1 y1 k1
          go_wp2
          go_ret
          obtain ⟨hLv, hYo⟩ := unhide HI
          rw [unhide HKE, List.take_length] at hLv
          refine ⟨Yk, rfl, (Yo.from (unhide HWB) hYo).wide hyF, fun t ht => ?_, L2, hLv⟩
          obtain ⟨i, hi⟩ := List.getElem?_of_mem ht
          rw [hLv.th i] at hi
          split at hi
          · injection hi with hi; exact hi.symm
          · rename_i hn2
            cases t with
            | false => rfl
            | true =>
              exfalso
              have hmem := ((unhide H7).2 i).2 hi
              exact hn2 ⟨(unhide HL2K).mem_iff.2 hmem, (List.getElem?_eq_some_iff.1 hi).1⟩
    · have hqm := hE
      have hent := entryI_run hE
      obtain ⟨W8, hW8⟩ : ∃ W8, putO w1 rb o' = W8 := ⟨_, rfl⟩
      have hb8 : Below w.heap.size w W8 := by
        rw [← hW8]
        exact below_putO (by rcases hw1 with h | h <;> rw [h]; exact (unhide HB).1; exact (unhide HB).1.drew) (by have := unhide HRB; omega)
      have hs8 : rb + 1 ≤ W8.heap.size := by
        rw [← hW8]
        have := (unhide HB).2
        rcases hw1 with h | h <;> rw [h] <;> simp [putO] <;> omega
      have hO8 : OwnI W8 (rb + 1) (.slice a5 L.length c5) (L.map fun (i : Nat) => (i : Int)) := own_same (unhide HO) (fun g eg => by
        have h1 := (World.ownsRow.lt (unhide HO) g eg).1
        rw [← hW8, putO_ne (by omega)]
        rcases hw1 with h | h <;> rw [h]
        rfl)
      rw [hW8] at hnx hE hent
      have hb9 := below_alloc (Below.refl _ W8) (.cells #[.int .i64 (q : Int)] 3)
      have hO9 : OwnI (W8.alloc (.cells #[.int .i64 (q : Int)] 3)) (rb + 1) (.slice a5 L.length c5) (L.map fun (i : Nat) => (i : Int)) := hO8.later hb9
      have hQ9 : OwnI (W8.alloc (.cells #[.int .i64 (q : Int)] 3)) 0 (.slice (some ⟨W8.heap.size, 0, none⟩) 1 1) [(q : Int)] := World.ownsRow_lit (base := 0) (e := 3) (size := 1) W8 #[.int .i64 (q : Int)] 1 (Nat.zero_le _) (by unfold maxLen; omega) rfl
      have hLl : L.length < 1000000 := by
        have h1 := (unhide HP).length_eq
        rw [e, List.length_append, List.length_append, List.length_cons] at h1
        have := unhide HKS
        omega
      have HLL : Hid ((L.map fun (i : Nat) => (i : Int)).length + [(q : Int)].length ≤ 1000000) := by
        show _ ≤ _
        rw [List.length_map]; simp only [List.length_cons, List.length_nil]; omega
      have HO9 := hide hO9
      have HQ9 := hide hQ9
      have HB8 := hide hb8
      have HB9 := hide hb9
      have HS8 := hide hs8
      have HE := hide hE
      have HS9 : Hid (rb + 1 ≤ (W8.alloc (.cells #[.int .i64 (q : Int)] 3)).heap.size) := by show _ ≤ _; have := hb9.size; omega
      have HME : Hid (rgLeft wr m rb = todo.length) := (unhide HR).left
      have HTO := hide e
      clear hO8 hO9 hQ9 hb8 hb9 hs8 hE hqm e hLl hW8 hw1
      go_wp2_with (first
        | (at_builtin; refine wpList_append_ints (W8.alloc (.cells #[.int .i64 (q : Int)] 3)) rfl (.tmp 19) (.tmp 21) rfl (rb + 1) 0 (.slice a5 L.length c5) (.slice (some ⟨W8.heap.size, 0, none⟩) 1 1) (L.map fun (i : Nat) => (i : Int)) [(q : Int)] rfl (unhide HO9) rfl (unhide HQ9) (unhide HLL) (unhide HS9) ?_; intro v6 w6 hO6 hb6; obtain ⟨a6, c6, e6⟩ := OwnI.slice hO6; have HO6 := hide hO6; have HB6 := hide hb6; have HE6 := hide e6; clear hO6 hb6 e6))
      go_roundw
      case rel =>
        have hbb : Below (rb + 1) W8 w6 := ((unhide HB9).mono (unhide HS8)).trans (unhide HB6)
        refine ⟨L ++ [q], pre ++ post, (unhide HE).rg.app hbb (by omega) (by omega), ⟨(unhide HB8).trans (hbb.mono (by have := unhide HRB; omega)), by have := hbb.size; have := unhide HS8; omega⟩, ?_, ?_⟩
        · show OwnI w6 (rb + 1) v6 ((L ++ [q]).map _)
          rw [List.map_append]
          exact unhide HO6
        · refine List.Perm.trans ?_ (unhide HP)
          rw [unhide HTO, List.append_assoc]
          refine List.Perm.append (List.Perm.refl _) ?_
          show (q :: (pre ++ post)).Perm _
          exact List.perm_middle.symm
      case measure =>
        have hbb : Below (rb + 1) W8 w6 := ((unhide HB9).mono (unhide HS8)).trans (unhide HB6)
        rw [((unhide HE).rg.app hbb (by omega) (by omega)).left, unhide HME, unhide HTO]
        simp
end Go.Proofs.YtcbenpodohjbiaaGreat

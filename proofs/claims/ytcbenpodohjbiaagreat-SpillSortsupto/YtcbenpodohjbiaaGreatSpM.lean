import Derived.Test.YtcbenpodohjbiaaGreatSpK
import Derived.Test.YtcbenpodohjbiaaGreatSpJ
import Derived.Test.YtcbenpodohjbiaaGreatSpE
import Derived.Maps.RangeRun
set_option linter.unusedSimpArgs false
set_option linter.unusedVariables false
set_option maxRecDepth 100000
namespace Go.Proofs.YtcbenpodohjbiaaGreat
open Go.RowKit Go.Sort

theorem get_map {P : Program} {w : World} {r : Nat} {es : Array MapEntry} {clk : Nat} (hb : w.heap[r]? = some (.map es clk)) : (getObj r).run P w = .ok (.map es clk) w := by
  simp [getObj, Sem.run, hb]
theorem set_map {P : Program} {w : World} {r : Nat} {es : Array MapEntry} {clk : Nat} (o : Obj) (hb : w.heap[r]? = some (.map es clk)) : (setObj r o).run P w = .ok () { w with heap := w.heap.setIfInBounds r o } := by
  simp only [setObj, Sem.run, hb]
/-- A world whose block r is another. -/
def putO (w : World) (r : Nat) (o : Obj) : World := { w with heap := w.heap.setIfInBounds r o }
theorem putO_at {w : World} {r : Nat} {o : Obj} (h : r < w.heap.size) : (putO w r o).heap[r]? = some o := by simp [putO, h]
theorem putO_ne {w : World} {r k : Nat} {o : Obj} (h : k ≠ r) : (putO w r o).heap[k]? = w.heap[k]? := by simp [putO, Array.getElem?_setIfInBounds, Ne.symm h]
/-- The keys of a map that says only which there are. -/
def EntsI (es : List MapEntry) (ks : List Nat) : Prop := es.map (fun e => (e.key, e.val)) = ks.map fun (k : Nat) => (Value.int .i64 (k : Int), Value.agg #[])
structure EsI (es : Array MapEntry) (clk : Nat) (ks : List Nat) : Prop where
  ents : EntsI es.toList ks
  old : ∀ x ∈ es.toList, x.born < clk
  once : (es.toList.map (·.born)).Nodup
def MpI (w : World) (mb : Nat) (ks : List Nat) : Prop := ∃ es clk, w.heap[mb]? = some (.map es clk) ∧ EsI es clk ks
theorem MpI.lt {w : World} {mb : Nat} {ks : List Nat} (h : MpI w mb ks) : mb < w.heap.size := by
  obtain ⟨es, clk, hh, _⟩ := h; exact (Array.getElem?_eq_some_iff.1 hh).1
theorem MpI.keep {w w' : World} {mb : Nat} {ks : List Nat} (h : MpI w mb ks) (hb : w'.heap[mb]? = w.heap[mb]?) : MpI w' mb ks := by
  obtain ⟨es, clk, hh, he⟩ := h; exact ⟨es, clk, by rw [hb]; exact hh, he⟩
theorem MpI.ntg {w : World} {mb : Nat} {ks : List Nat} (h : MpI w mb ks) (t : Nat) : ¬ Tg t w mb := fun q => by
  obtain ⟨es, clk, hh, _⟩ := h
  obtain ⟨cs, f, q⟩ := q
  rw [hh] at q
  cases q
theorem ky_putO {F : Nat → Prop} {w : World} {r : Nat} (o : Obj) {ks : List Nat} (hF : F r) (h : MpI w r ks) : Ky F w (putO w r o) :=
  ⟨rfl, rfl, rfl, by simp [putO], fun k _ hn => putO_ne (fun e => hn (by rw [e]; exact hF)), fun k t _ hk => putO_ne (fun e => h.ntg t (by rw [← e]; exact hk))⟩
theorem findI (x : Nat) : ∀ (es : List MapEntry) (ks : List Nat) (i : Nat), EntsI es ks → Instr.findNow (.int .i64) (.int .i64 (x : Int)) es i = some ((ks.findIdx? fun k => k == x).map fun j => (i + j, Value.agg #[]))
  | [], [], i, _ => rfl
  | [], _ :: _, i, h => by simp [EntsI] at h
  | _ :: _, [], i, h => by simp [EntsI] at h
  | e :: es, k :: ks, i, h => by
    unfold EntsI at h
    rw [List.map_cons, List.map_cons] at h
    injection h with h1 h2
    simp only [Prod.mk.injEq] at h1
    have ih := findI x es ks (i + 1) h2
    unfold Instr.findNow
    rw [h1.1, List.findIdx?_cons]
    by_cases e1 : k = x
    · subst e1
      have : Instr.sameNow (.int .i64) (.int .i64 (k : Int)) (.int .i64 (k : Int)) = some true := by simp [Instr.sameNow]
      rw [this]
      simp [h1.2]
    · have : Instr.sameNow (.int .i64) (.int .i64 (x : Int)) (.int .i64 (k : Int)) = some false := by simp [Instr.sameNow]; omega
      rw [this, ih]
      have e2 : (k == x) = false := by simpa using e1
      simp only [e2]
      cases ks.findIdx? (fun k => k == x) <;> simp
      omega
theorem keyI (x : Nat) (W : World) (es : List MapEntry) (ks : List Nat) (h : EntsI es ks) : (Instr.findKey 3 (.int .i64 (x : Int)) es).run Tryz.prog W = .ok ((ks.findIdx? fun k => k == x).map fun j => (j, Value.agg #[])) W := by
  unfold Instr.findKey
  simp only [Sem.run_bind, run_underlying Tryz.underlying3, Result.andThen_ok, findI x es ks 0 h, Sem.run_pure, Nat.zero_add]
theorem checkI (e : Bool) (x : Nat) (W : World) : (Instr.checkKey e 10000 3 (.int .i64 (x : Int))).run Tryz.prog W = .ok () W := by cases e <;> kernel_rfl
theorem EsI.push {es : Array MapEntry} {clk : Nat} {ks : List Nat} (h : EsI es clk ks) (x : Nat) : EsI (es.push { key := .int .i64 (x : Int), val := .agg #[], born := clk }) (clk + 1) (ks ++ [x]) := by
  refine ⟨?_, fun y hy => ?_, ?_⟩
  · have := h.ents
    unfold EntsI at this ⊢
    rw [Array.toList_push, List.map_append, List.map_append, this]; rfl
  · rw [Array.toList_push] at hy
    rcases List.mem_append.1 hy with hy | hy
    · have := h.old y hy; omega
    · simp at hy; subst hy; simp
  · rw [Array.toList_push, List.map_append, List.nodup_append]
    refine ⟨h.once, by simp, fun a ha b hb e => ?_⟩
    simp at hb
    obtain ⟨y, hy, rfl⟩ := List.mem_map.1 ha
    have := h.old y hy
    omega
theorem putI {W : World} {mb : Nat} {ks : List Nat} {x : Nat} (h : MpI W mb ks) (hx : x ∉ ks) :
    ∃ o, (Instr.mapUpdate 80 (.map (some mb)) (.int .i64 (x : Int)) (.agg #[])).run Tryz.prog W = .ok () (putO W mb o) ∧ MpI (putO W mb o) mb (ks ++ [x]) := by
  have hlt := h.lt
  obtain ⟨es, clk, hh, he⟩ := h
  have hn : ks.findIdx? (fun k => k == x) = none := by
    rw [List.findIdx?_eq_none_iff]
    intro k hk
    simp only [beq_eq_false_iff_ne]
    exact fun e => hx (e ▸ hk)
  refine ⟨.map (es.push { key := .int .i64 (x : Int), val := .agg #[], born := clk }) (clk + 1), ?_, _, _, putO_at hlt, he.push x⟩
  unfold Instr.mapUpdate
  simp only [Sem.run_bind, run_underlying Tryz.underlying80, Result.andThen_ok, get_map hh, Sem.run_pure, checkI, keyI x W es.toList ks he.ents, hn, Option.map_none]
  rw [set_map _ hh]; rfl
theorem delI {W : World} {mb : Nat} {ks : List Nat} {x : Nat} (h : MpI W mb ks) (hx : x ∈ ks) (hd : ks.Nodup) :
    ∃ o, (∀ ty, (Builtin.delete_ #[80, 3] ty #[.map (some mb), .int .i64 (x : Int)]).run Tryz.prog W = .ok (.tuple #[]) (putO W mb o)) ∧ MpI (putO W mb o) mb (ks.erase x) := by
  have hlt := h.lt
  obtain ⟨es, clk, hh, he⟩ := h
  obtain ⟨j, hj⟩ : ∃ j, ks.findIdx? (fun k => k == x) = some j := by
    cases hq : ks.findIdx? (fun k => k == x) with
    | some j => exact ⟨j, rfl⟩
    | none =>
      rw [List.findIdx?_eq_none_iff] at hq
      have := hq x hx
      simp at this
  have hjl : j < ks.length := by
    rw [List.findIdx?_eq_some_iff_getElem] at hj
    exact hj.1
  have hjx : ks[j] = x := by
    rw [List.findIdx?_eq_some_iff_getElem] at hj
    simpa using hj.2.1
  have hlen : es.size = ks.length := by
    have := congrArg List.length he.ents
    simpa using this
  have her : ks.erase x = ks.eraseIdx j := by
    rw [List.erase_eq_eraseIdx]
    rw [List.findIdx?_eq_some_iff_getElem] at hj
    have : ks.idxOf? x = some j := by
      rw [List.idxOf?, List.findIdx?_eq_some_iff_getElem]
      exact hj
    rw [this]
  refine ⟨.map (es.eraseIdxIfInBounds j) clk, ?_, _, _, putO_at hlt, ⟨?_, fun y hy => ?_, ?_⟩⟩
  · intro ty
    unfold Builtin.delete_
    simp only [List.getElem?_toArray, List.getElem?_cons_zero, List.getElem?_cons_succ, Sem.run_bind, run_underlying Tryz.underlying80, Result.andThen_ok, get_map hh, Sem.run_pure, checkI, keyI x W es.toList ks he.ents, hj, Option.map_some]
    rw [set_map _ hh]; rfl
  · have := he.ents
    unfold EntsI at this ⊢
    rw [Array.toList_eraseIdxIfInBounds, her]
    simp only [List.eraseIdx_eq_take_drop_succ, List.map_append, List.map_take, List.map_drop]
    rw [this]
  · rw [Array.toList_eraseIdxIfInBounds] at hy
    exact he.old y ((List.eraseIdx_sublist _ _).mem hy)
  · rw [Array.toList_eraseIdxIfInBounds]
    exact he.once.sublist ((List.eraseIdx_sublist _ _).map _)
end Go.Proofs.YtcbenpodohjbiaaGreat
set_option linter.unusedSimpArgs false
set_option linter.unusedVariables false
set_option maxRecDepth 100000
namespace Go.Proofs.YtcbenpodohjbiaaGreat
open Go.RowKit Go.Sort

/-- The room of a call, and which of its runs are there. -/
structure Sy (w : World) (y b m : Nat) (ks : List Nat) : Prop where
  tg : Tg 82 w y
  c0 : w.cell? ⟨y, 0, none⟩ = some (.iface 24 (.pointer (some ⟨b, 0, none⟩)))
  c1 : w.cell? ⟨y, 1, none⟩ = some (.map (some m))
  mp : MpI w m ks
theorem Sy.ky {G : Nat → Prop} {w w' : World} {y b m : Nat} {ks : List Nat} (h : Sy w y b m ks) (hk : Ky G w w') (h1 : ¬ G y) (h2 : ¬ G m) : Sy w' y b m ks :=
  ⟨hk.tg h.tg h1, hk.cell h.c0 h1, hk.cell h.c1 h1, h.mp.keep (hk.block m h.mp.lt h2)⟩
/-- Which runs are there. -/
def Live (Y : Yv) (ks : List Nat) : Prop := ks.Nodup ∧ ∀ i, i ∈ ks ↔ Y.there[i]? = some true
/-- The yard y of the program, over the yard b. -/
def Yw (w : World) (b y m : Nat) (Y : Yv) (op : Option Nat) (F : Nat → Prop) : Prop :=
  ¬ F y ∧ F m ∧ ∃ F0 ks, (∀ k, F0 k → F k) ∧ ¬ F0 m ∧ Py w b Y op F0 ∧ Sy w y b m ks ∧ Live Y ks
theorem Yw.ky {G F : Nat → Prop} {w w' : World} {b y m : Nat} {Y : Yv} {op : Option Nat} (h : Yw w b y m Y op F) (hk : Ky G w w') (hn : ∀ k, G k → ¬ F k) (hy : ¬ G y) : Yw w' b y m Y op F := by
  obtain ⟨h1, h2, F0, ks, h3, h4, h5, h6, h7⟩ := h
  exact ⟨h1, h2, F0, ks, h3, h4, h5.ky hk (fun k g f => hn k g (h3 k f)), h6.ky hk hy (fun g => hn m g h2), h7⟩
theorem Yw.later {F : Nat → Prop} {w w' : World} {b y m : Nat} {Y : Yv} {op : Option Nat} (h : Yw w b y m Y op F) (hb : Below w.heap.size w w') : Yw w' b y m Y op F := h.ky (G := fun _ => False) (Ky.of_below hb) (fun _ => False.elim) id
/-- What has become of the yard. -/
def Yo (w w' : World) (b y m : Nat) (Y' : Yv) (op : Option Nat) (F : Nat → Prop) : Prop := ∃ F', Nw F F' w ∧ (∀ k, F k → F' k) ∧ Yw w' b y m Y' op F' ∧ Ky F w w'
theorem Yo.trans {w w1 w2 : World} {b y m : Nat} {Y1 Y2 : Yv} {op1 op2 : Option Nat} {F : Nat → Prop} (h : Yo w w1 b y m Y1 op1 F) (h2 : ∀ F', Yw w1 b y m Y1 op1 F' → Yo w1 w2 b y m Y2 op2 F') : Yo w w2 b y m Y2 op2 F := by
  obtain ⟨F1, a1, a2, a3, a4⟩ := h
  obtain ⟨F2, b1, b2, b3, b4⟩ := h2 F1 a3
  exact ⟨F2, a1.trans b1 a4.size, fun k hk => b2 k (a2 k hk), b3, a4.trans b4 a1⟩
theorem Yo.later {w w1 w2 : World} {b y m : Nat} {Y1 : Yv} {op1 : Option Nat} {F : Nat → Prop} (h : Yo w w1 b y m Y1 op1 F) (hb : Below w1.heap.size w1 w2) : Yo w w2 b y m Y1 op1 F := by
  obtain ⟨F1, a1, a2, a3, a4⟩ := h
  exact ⟨F1, a1, a2, a3.later hb, a4.trans (Ky.of_below hb) a1⟩
/-- The yard beneath has changed, its runs are there as before. -/
theorem Yw.under {F F0 F0' : Nat → Prop} {w w' : World} {b y m : Nat} {Y' : Yv} {op : Option Nat} {ks : List Nat} (h1 : ¬ F y) (h2 : F m) (h3 : ∀ k, F0 k → F k) (h4 : ¬ F0 m) (h6 : Sy w y b m ks) (n : Nw F0 F0' w) (hP : Py w' b Y' op F0') (hK : Ky F0 w w') (hL : Live Y' ks) : Yo w w' b y m Y' op F := by
  have nm : ¬ F0' m := fun e => by
    rcases n m e with q | q
    · exact h4 q
    · have := h6.mp.lt; omega
  refine ⟨fun k => F k ∨ F0' k, fun k hk => ?_, fun k hk => .inl hk, ⟨fun e => ?_, .inl h2, F0', ks, fun k hk => .inr hk, nm, hP, h6.ky hK (fun e => h1 (h3 y e)) h4, hL⟩, hK.mono h3⟩
  · rcases hk with hk | hk
    · exact .inl hk
    · exact (n k hk).imp (h3 k) id
  · rcases e with e | e
    · exact h1 e
    · rcases n y e with q | q
      · exact h1 (h3 y q)
      · have := h6.tg.lt; omega
theorem live_same {Y Y' : Yv} {ks : List Nat} (h : Live Y ks) (e : Y'.there = Y.there) : Live Y' ks := by
  unfold Live
  rw [e]
  exact h
/-- A call of the yard beneath that writes its own cells alone. -/
theorem Yw.call1 {F F0 : Nat → Prop} {w w' : World} {b y m : Nat} {Y Y' : Yv} {op : Option Nat} {ks : List Nat} (h1 : ¬ F y) (h2 : F m) (h3 : ∀ k, F0 k → F k) (h4 : ¬ F0 m) (h6 : Sy w y b m ks) (fb : F0 b) (h7 : Live Y ks) (hP : Py w' b Y' op F0) (hK : Ky (fun k => k = b) w w') (e : Y'.there = Y.there) : Yo w w' b y m Y' op F :=
  Yw.under h1 h2 h3 h4 h6 (Nw.refl _ _) hP (hK.mono fun k q => by subst q; exact fb) (live_same h7 e)
set_option maxHeartbeats 2000000 in
/-- New (65), refused. -/
theorem ynew_hit {F : Nat → Prop} {b y m : Nat} {Y : Yv} {op : Option Nat} {w : World} (h : Yw w b y m Y op F) (hr : Y.rd = false) (hh : Y.hit = true) (hc : Y.cd ≠ 0) :
    Calls Tryz.prog 65 #[.pointer (some ⟨y, 0, none⟩)] w fun e w' => e = .returned (.tuple #[.int .i64 0, .int .i64 Y.cd]) ∧ Yo w w' b y m Y.tick op F := by
  obtain ⟨h1, h2, F0, ks, h3, h4, h5, h6, h7⟩ := h
  have HC := hide (new_hit h5 hr hh hc)
  have fb := h5.1
  have c0 := h6.c0
  have hcd : (Y.cd == 0) = false := by simpa using hc
  clear h5 hr hh hc
  have hm : ∀ w : World, (method 297 24 (.pointer (some ⟨b, 0, none⟩)) "New").run Tryz.prog w = .ok (153, .pointer (some ⟨b, 0, none⟩)) w := fun _ => by kernel_rfl
  go_enter Tryz.func65, Tryz.ntmps65
  go_wp2_with (first | (go_at_call 153; refine (unhide HC).mono ?_; rintro _ w1 ⟨rfl, hP, hK⟩))
  exact bodyPost_ret (v := .tuple #[.int .i64 0, .int .i64 Y.cd]) (by simp [results, Tryz.results65, go_sem]) rfl ⟨rfl, Yw.call1 h1 h2 h3 h4 h6 fb h7 hP hK rfl⟩
set_option maxHeartbeats 2000000 in
/-- New (65). -/
theorem ynew_ok {F : Nat → Prop} {b y m : Nat} {Y : Yv} {op : Option Nat} {w : World} (h : Yw w b y m Y op F) (hlt : Y.there.length = Y.runs.length) (hn : Y.runs.length ≤ 1048576) (hr : Y.rd = false) (hh : Y.hit = false) :
    Calls Tryz.prog 65 #[.pointer (some ⟨y, 0, none⟩)] w fun e w' => e = .returned (.tuple #[.int .i64 (Y.runs.length : Nat), .int .i64 0]) ∧ Yo w w' b y m Y.tick.newRun (some Y.runs.length) F := by
  obtain ⟨h1, h2, F0, ks, h3, h4, h5, h6, h7⟩ := h
  have HC := hide (new_ok h5 hn hr hh)
  have fb := h5.1
  have c0 := h6.c0
  have hnk : Y.runs.length ∉ ks := fun e => by
    have := (h7.2 _).1 e
    rw [List.getElem?_eq_none (by omega)] at this
    cases this
  have HNK := hide hnk
  have H6 := hide h6
  have H7 := hide h7
  have H3 := hide h3
  have HLT := hide hlt
  clear h5 hr hh hnk h6 h7 hlt h3
  have hm : ∀ w : World, (method 297 24 (.pointer (some ⟨b, 0, none⟩)) "New").run Tryz.prog w = .ok (153, .pointer (some ⟨b, 0, none⟩)) w := fun _ => by kernel_rfl
  go_enter Tryz.func65, Tryz.ntmps65
  go_wp2_with (first | (go_at_call 153; refine (unhide HC).mono ?_; rintro _ w1 ⟨rfl, F1, n1, m1, hP, hK⟩; have h61 := (unhide H6).ky hK (fun e => h1 (unhide H3 y e)) h4; have c1 := h61.c1; obtain ⟨o, hrun, hmp⟩ := putI h61.mp (unhide HNK); have H61 := hide h61; have HP := hide hP; have HK := hide hK; have HMP := hide hmp; have HN1 := hide n1; have HM1 := hide m1; clear hP hK hmp h61 n1 m1))
  have nm1 : ¬ F1 m := fun e => by
    rcases unhide HN1 m e with q | q
    · exact h4 q
    · have := (unhide H6).mp.lt; omega
  have hk2 : Ky (fun k => k = m) w1 (putO w1 m o) := ky_putO (F := fun k => k = m) o rfl (unhide H61).mp
  have nym : ¬ y = m := fun e => by subst e; exact h1 h2
  refine bodyPost_ret (v := .tuple #[.int .i64 (Y.runs.length : Nat), .int .i64 0]) (by simp [results, Tryz.results65, go_sem]) rfl ⟨rfl, fun k => F k ∨ F1 k, fun k hk => ?_, fun k hk => .inl hk, ⟨fun e => ?_, .inl h2, F1, ks ++ [Y.runs.length], fun k hk => .inr hk, nm1, (unhide HP).ky hk2 (fun k e q => by subst e; exact nm1 q), ⟨hk2.tg (unhide H61).tg nym, hk2.cell (unhide H61).c0 nym, hk2.cell (unhide H61).c1 nym, unhide HMP⟩, ?_⟩, ?_⟩
  · rcases hk with hk | hk
    · exact .inl hk
    · exact (unhide HN1 k hk).imp (unhide H3 k) id
  · rcases e with e | e
    · exact h1 e
    · rcases unhide HN1 y e with q | q
      · exact h1 (unhide H3 y q)
      · have := (unhide H6).tg.lt; omega
  · obtain ⟨d1, d2⟩ := unhide H7
    refine ⟨List.nodup_append.2 ⟨d1, by simp, fun a ha c hc e => ?_⟩, fun i => ?_⟩
    · simp at hc
      subst e
      exact unhide HNK (hc ▸ ha)
    · change i ∈ ks ++ [Y.runs.length] ↔ (Y.there ++ [true])[i]? = some true
      rw [List.mem_append, d2]
      by_cases hi : i < Y.there.length
      · rw [List.getElem?_append_left hi]
        constructor
        · rintro (q | q)
          · exact q
          · simp at q; have := unhide HLT; omega
        · exact .inl
      · rw [List.getElem?_append_right (by omega)]
        by_cases he : i = Y.runs.length
        · subst he
          have := unhide HLT
          simp [this]
        · have hx := unhide HLT
          rw [List.getElem?_eq_none (l := Y.there) (by omega), List.getElem?_eq_none (by simp; omega)]
          simp [he]
  · exact ((unhide HK).mono (unhide H3)).trans (hk2.mono fun k e => by subst e; exact h2) (Nw.refl _ _)
set_option maxHeartbeats 2000000 in
/-- Drop (37) of a run that is there. -/
theorem ydrop_any {F : Nat → Prop} {b y m : Nat} {Y : Yv} {op : Option Nat} {w : World} {i : Nat} (h : Yw w b y m Y op F) (hi : Y.there[i]? = some true) (hn : Y.runs.length ≤ 1048576) :
    Calls Tryz.prog 37 #[.pointer (some ⟨y, 0, none⟩), .int .i64 i] w fun e w' => e = .returned (.int .i64 0) ∧ Yo w w' b y m (Y.drop i) op F := by
  obtain ⟨h1, h2, F0, ks, h3, h4, h5, h6, h7⟩ := h
  have fb := h5.1
  have c0 := h6.c0
  have c1 := h6.c1
  have hik : i ∈ ks := (h7.2 i).2 hi
  obtain ⟨o, hrun0, hmp⟩ := delI h6.mp hik h7.1
  have hrun := hrun0
  have hk2 : Ky (fun k => k = m) w (putO w m o) := ky_putO (F := fun k => k = m) o rfl h6.mp
  have nym : ¬ y = m := fun e => by subst e; exact h1 h2
  have HC := hide (drop_any (h5.ky hk2 (fun k e q => by subst e; exact h4 q)) hi hn)
  have e0 := hk2.cell c0 nym
  have H6 : Hid (Sy (putO w m o) y b m (ks.erase i)) := ⟨hk2.tg h6.tg nym, hk2.cell h6.c0 nym, hk2.cell h6.c1 nym, hmp⟩
  have HK2 := hide hk2
  have H7 := hide h7
  clear h5 h6 h7 hmp hk2 hrun0
  have hm : ∀ w : World, (method 297 24 (.pointer (some ⟨b, 0, none⟩)) "Drop").run Tryz.prog w = .ok (151, .pointer (some ⟨b, 0, none⟩)) w := fun _ => by kernel_rfl
  go_enter Tryz.func37, Tryz.ntmps37
  go_wp2_with (first | (go_at_call 151; refine (unhide HC).mono ?_; rintro _ w1 ⟨rfl, F1, n1, m1, hP, hK⟩))
  go_ret
  refine ⟨rfl, ?_⟩
  have hlive : Live (Y.drop i) (ks.erase i) := by
    obtain ⟨d1, d2⟩ := unhide H7
    refine ⟨d1.erase i, fun j => ?_⟩
    rw [d1.mem_erase_iff, d2]
    change _ ↔ (Y.there.set i false)[j]? = some true
    rw [List.getElem?_set]
    by_cases e : i = j
    · subst e
      rw [if_pos rfl]
      split <;> simp
    · rw [if_neg e]
      constructor
      · exact fun q => q.2
      · exact fun q => ⟨fun e2 => e e2.symm, q⟩
  obtain ⟨F2, a1, a2, a3, a4⟩ := Yw.under h1 h2 h3 h4 (unhide H6) n1 hP hK hlive
  exact ⟨F2, fun k hk => (a1 k hk).imp id (fun q => by have := (unhide HK2).size; omega), a2, a3, ((unhide HK2).mono fun k e => by subst e; exact h2).trans a4 (Nw.refl _ _)⟩
end Go.Proofs.YtcbenpodohjbiaaGreat

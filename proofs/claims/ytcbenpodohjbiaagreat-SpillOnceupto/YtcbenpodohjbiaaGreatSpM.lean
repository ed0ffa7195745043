import Derived.Test.YtcbenpodohjbiaaGreatSpE
import Derived.Maps.RangeRun
set_option linter.unusedSimpArgs false
set_option linter.unusedVariables false
set_option maxRecDepth 100000
namespace Go.Proofs.YtcbenpodohjbiaaGreat
open Go.RowKit Go.Sort

theorem get_map {P : Program} {w : World} {r : Nat} {es : Array MapEntry} {clk : Nat} (hb : w.heap[r]? = some (.map es clk)) : (getObj r).run P w = .ok (.map es clk) w := by
  simp [getObj, Sem.run, hb]
theorem set_map {P : Program} {w : World} {r : Nat} {es : Array MapEntry} {clk : Nat} (o : Obj) (hb : w.heap[r]? = some (.map es clk)) : (setObj r o).run P w = .ok () { w with heap := w.heap.setIfInBounds r o } := by
  simp only [setObj, Sem.run, hb]
/-- A world whose block r is another. -/
def putO (w : World) (r : Nat) (o : Obj) : World := { w with heap := w.heap.setIfInBounds r o }
theorem putO_at {w : World} {r : Nat} {o : Obj} (h : r < w.heap.size) : (putO w r o).heap[r]? = some o := by simp [putO, h]
theorem putO_ne {w : World} {r k : Nat} {o : Obj} (h : k ≠ r) : (putO w r o).heap[k]? = w.heap[k]? := by simp [putO, Array.getElem?_setIfInBounds, Ne.symm h]
/-- The keys of a map that says only which there are. -/
def EntsI (es : List MapEntry) (ks : List Nat) : Prop := es.map (fun e => (e.key, e.val)) = ks.map fun (k : Nat) => (Value.int .i64 (k : Int), Value.agg #[])
structure EsI (es : Array MapEntry) (clk : Nat) (ks : List Nat) : Prop where
  ents : EntsI es.toList ks
  old : ∀ x ∈ es.toList, x.born < clk
  once : (es.toList.map (·.born)).Nodup
def MpI (w : World) (mb : Nat) (ks : List Nat) : Prop := ∃ es clk, w.heap[mb]? = some (.map es clk) ∧ EsI es clk ks
theorem MpI.lt {w : World} {mb : Nat} {ks : List Nat} (h : MpI w mb ks) : mb < w.heap.size := by
  obtain ⟨es, clk, hh, _⟩ := h; exact (Array.getElem?_eq_some_iff.1 hh).1
theorem MpI.keep {w w' : World} {mb : Nat} {ks : List Nat} (h : MpI w mb ks) (hb : w'.heap[mb]? = w.heap[mb]?) : MpI w' mb ks := by
  obtain ⟨es, clk, hh, he⟩ := h; exact ⟨es, clk, by rw [hb]; exact hh, he⟩
theorem MpI.ntg {w : World} {mb : Nat} {ks : List Nat} (h : MpI w mb ks) (t : Nat) : ¬ Tg t w mb := fun q => by
  obtain ⟨es, clk, hh, _⟩ := h
  obtain ⟨cs, f, q⟩ := q
  rw [hh] at q
  cases q
theorem ky_putO {F : Nat → Prop} {w : World} {r : Nat} (o : Obj) {ks : List Nat} (hF : F r) (h : MpI w r ks) : Ky F w (putO w r o) :=
  ⟨rfl, rfl, rfl, by simp [putO], fun k _ hn => putO_ne (fun e => hn (by rw [e]; exact hF)), fun k t _ hk => putO_ne (fun e => h.ntg t (by rw [← e]; exact hk))⟩
theorem findI (x : Nat) : ∀ (es : List MapEntry) (ks : List Nat) (i : Nat), EntsI es ks → Instr.findNow (.int .i64) (.int .i64 (x : Int)) es i = some ((ks.findIdx? fun k => k == x).map fun j => (i + j, Value.agg #[]))
  | [], [], i, _ => rfl
  | [], _ :: _, i, h => by simp [EntsI] at h
  | _ :: _, [], i, h => by simp [EntsI] at h
  | e :: es, k :: ks, i, h => by
    unfold EntsI at h
    rw [List.map_cons, List.map_cons] at h
    injection h with h1 h2
    simp only [Prod.mk.injEq] at h1
    have ih := findI x es ks (i + 1) h2
    unfold Instr.findNow
    rw [h1.1, List.findIdx?_cons]
    by_cases e1 : k = x
    · subst e1
      have : Instr.sameNow (.int .i64) (.int .i64 (k : Int)) (.int .i64 (k : Int)) = some true := by simp [Instr.sameNow]
      rw [this]
      simp [h1.2]
    · have : Instr.sameNow (.int .i64) (.int .i64 (x : Int)) (.int .i64 (k : Int)) = some false := by simp [Instr.sameNow]; omega
      rw [this, ih]
      have e2 : (k == x) = false := by simpa using e1
      simp only [e2]
      cases ks.findIdx? (fun k => k == x) <;> simp
      omega
theorem keyI (x : Nat) (W : World) (es : List MapEntry) (ks : List Nat) (h : EntsI es ks) : (Instr.findKey 3 (.int .i64 (x : Int)) es).run Tryz.prog W = .ok ((ks.findIdx? fun k => k == x).map fun j => (j, Value.agg #[])) W := by
  unfold Instr.findKey
  simp only [Sem.run_bind, run_underlying Tryz.underlying3, Result.andThen_ok, findI x es ks 0 h, Sem.run_pure, Nat.zero_add]
theorem checkI (e : Bool) (x : Nat) (W : World) : (Instr.checkKey e 10000 3 (.int .i64 (x : Int))).run Tryz.prog W = .ok () W := by cases e <;> kernel_rfl
theorem EsI.push {es : Array MapEntry} {clk : Nat} {ks : List Nat} (h : EsI es clk ks) (x : Nat) : EsI (es.push { key := .int .i64 (x : Int), val := .agg #[], born := clk }) (clk + 1) (ks ++ [x]) := by
  refine ⟨?_, fun y hy => ?_, ?_⟩
  · have := h.ents
    unfold EntsI at this ⊢
    rw [Array.toList_push, List.map_append, List.map_append, this]; rfl
  · rw [Array.toList_push] at hy
    rcases List.mem_append.1 hy with hy | hy
    · have := h.old y hy; omega
    · simp at hy; subst hy; simp
  · rw [Array.toList_push, List.map_append, List.nodup_append]
    refine ⟨h.once, by simp, fun a ha b hb e => ?_⟩
    simp at hb
    obtain ⟨y, hy, rfl⟩ := List.mem_map.1 ha
    have := h.old y hy
    omega
theorem putI {W : World} {mb : Nat} {ks : List Nat} {x : Nat} (h : MpI W mb ks) (hx : x ∉ ks) :
    ∃ o, (Instr.mapUpdate 80 (.map (some mb)) (.int .i64 (x : Int)) (.agg #[])).run Tryz.prog W = .ok () (putO W mb o) ∧ MpI (putO W mb o) mb (ks ++ [x]) := by
  have hlt := h.lt
  obtain ⟨es, clk, hh, he⟩ := h
  have hn : ks.findIdx? (fun k => k == x) = none := by
    rw [List.findIdx?_eq_none_iff]
    intro k hk
    simp only [beq_eq_false_iff_ne]
    exact fun e => hx (e ▸ hk)
  refine ⟨.map (es.push { key := .int .i64 (x : Int), val := .agg #[], born := clk }) (clk + 1), ?_, _, _, putO_at hlt, he.push x⟩
  unfold Instr.mapUpdate
  simp only [Sem.run_bind, run_underlying Tryz.underlying80, Result.andThen_ok, get_map hh, Sem.run_pure, checkI, keyI x W es.toList ks he.ents, hn, Option.map_none]
  rw [set_map _ hh]; rfl
theorem delI {W : World} {mb : Nat} {ks : List Nat} {x : Nat} (h : MpI W mb ks) (hx : x ∈ ks) (hd : ks.Nodup) :
    ∃ o, (∀ ty, (Builtin.delete_ #[80, 3] ty #[.map (some mb), .int .i64 (x : Int)]).run Tryz.prog W = .ok (.tuple #[]) (putO W mb o)) ∧ MpI (putO W mb o) mb (ks.erase x) := by
  have hlt := h.lt
  obtain ⟨es, clk, hh, he⟩ := h
  obtain ⟨j, hj⟩ : ∃ j, ks.findIdx? (fun k => k == x) = some j := by
    cases hq : ks.findIdx? (fun k => k == x) with
    | some j => exact ⟨j, rfl⟩
    | none =>
      rw [List.findIdx?_eq_none_iff] at hq
      have := hq x hx
      simp at this
  have hjl : j < ks.length := by
    rw [List.findIdx?_eq_some_iff_getElem] at hj
    exact hj.1
  have hjx : ks[j] = x := by
    rw [List.findIdx?_eq_some_iff_getElem] at hj
    simpa using hj.2.1
  have hlen : es.size = ks.length := by
    have := congrArg List.length he.ents
    simpa using this
  have her : ks.erase x = ks.eraseIdx j := by
    rw [List.erase_eq_eraseIdx]
    rw [List.findIdx?_eq_some_iff_getElem] at hj
    have : ks.idxOf? x = some j := by
      rw [List.idxOf?, List.findIdx?_eq_some_iff_getElem]
      exact hj
    rw [this]
  refine ⟨.map (es.eraseIdxIfInBounds j) clk, ?_, _, _, putO_at hlt, ⟨?_, fun y hy => ?_, ?_⟩⟩
  · intro ty
    unfold Builtin.delete_
    simp only [List.getElem?_toArray, List.getElem?_cons_zero, List.getElem?_cons_succ, Sem.run_bind, run_underlying Tryz.underlying80, Result.andThen_ok, get_map hh, Sem.run_pure, checkI, keyI x W es.toList ks he.ents, hj, Option.map_some]
    rw [set_map _ hh]; rfl
  · have := he.ents
    unfold EntsI at this ⊢
    rw [Array.toList_eraseIdxIfInBounds, her]
    simp only [List.eraseIdx_eq_take_drop_succ, List.map_append, List.map_take, List.map_drop]
    rw [this]
  · rw [Array.toList_eraseIdxIfInBounds] at hy
    exact he.old y ((List.eraseIdx_sublist _ _).mem hy)
  · rw [Array.toList_eraseIdxIfInBounds]
    exact he.once.sublist ((List.eraseIdx_sublist _ _).map _)
end Go.Proofs.YtcbenpodohjbiaaGreat
set_option linter.unusedSimpArgs false
set_option linter.unusedVariables false
set_option maxRecDepth 100000
namespace Go.Proofs.YtcbenpodohjbiaaGreat
open Go.RowKit Go.Sort

/-- The room of a call, and which of its runs are there. -/
structure Sy (w : World) (y b m : Nat) (ks : List Nat) : Prop where
  tg : Tg 82 w y
  c0 : w.cell? ⟨y, 0, none⟩ = some (.iface 24 (.pointer (some ⟨b, 0, none⟩)))
  c1 : w.cell? ⟨y, 1, none⟩ = some (.map (some m))
  mp : MpI w m ks
theorem Sy.ky {G : Nat → Prop} {w w' : World} {y b m : Nat} {ks : List Nat} (h : Sy w y b m ks) (hk : Ky G w w') (h1 : ¬ G y) (h2 : ¬ G m) : Sy w' y b m ks :=
  ⟨hk.tg h.tg h1, hk.cell h.c0 h1, hk.cell h.c1 h1, h.mp.keep (hk.block m h.mp.lt h2)⟩
/-- Which runs are there. -/
def Live (Y : Yv) (ks : List Nat) : Prop := ks.Nodup ∧ ∀ i, i ∈ ks ↔ Y.there[i]? = some true
/-- The yard y of the program, over the yard b. -/
def Yw (w : World) (b y m : Nat) (Y : Yv) (op : Option Nat) (F : Nat → Prop) : Prop :=
  ¬ F y ∧ F m ∧ ∃ F0 ks, (∀ k, F0 k → F k) ∧ ¬ F0 m ∧ Py w b Y op F0 ∧ Sy w y b m ks ∧ Live Y ks
theorem Yw.ky {G F : Nat → Prop} {w w' : World} {b y m : Nat} {Y : Yv} {op : Option Nat} (h : Yw w b y m Y op F) (hk : Ky G w w') (hn : ∀ k, G k → ¬ F k) (hy : ¬ G y) : Yw w' b y m Y op F := by
  obtain ⟨h1, h2, F0, ks, h3, h4, h5, h6, h7⟩ := h
  exact ⟨h1, h2, F0, ks, h3, h4, h5.ky hk (fun k g f => hn k g (h3 k f)), h6.ky hk hy (fun g => hn m g h2), h7⟩
theorem Yw.later {F : Nat → Prop} {w w' : World} {b y m : Nat} {Y : Yv} {op : Option Nat} (h : Yw w b y m Y op F) (hb : Below w.heap.size w w') : Yw w' b y m Y op F := h.ky (G := fun _ => False) (Ky.of_below hb) (fun _ => False.elim) id
/-- What has become of the yard. -/
def Yo (w w' : World) (b y m : Nat) (Y' : Yv) (op : Option Nat) (F : Nat → Prop) : Prop := ∃ F', Nw F F' w ∧ (∀ k, F k → F' k) ∧ Yw w' b y m Y' op F' ∧ Ky F w w'
theorem Yo.trans {w w1 w2 : World} {b y m : Nat} {Y1 Y2 : Yv} {op1 op2 : Option Nat} {F : Nat → Prop} (h : Yo w w1 b y m Y1 op1 F) (h2 : ∀ F', Yw w1 b y m Y1 op1 F' → Yo w1 w2 b y m Y2 op2 F') : Yo w w2 b y m Y2 op2 F := by
  obtain ⟨F1, a1, a2, a3, a4⟩ := h
  obtain ⟨F2, b1, b2, b3, b4⟩ := h2 F1 a3
  exact ⟨F2, a1.trans b1 a4.size, fun k hk => b2 k (a2 k hk), b3, a4.trans b4 a1⟩
theorem Yo.later {w w1 w2 : World} {b y m : Nat} {Y1 : Yv} {op1 : Option Nat} {F : Nat → Prop} (h : Yo w w1 b y m Y1 op1 F) (hb : Below w1.heap.size w1 w2) : Yo w w2 b y m Y1 op1 F := by
  obtain ⟨F1, a1, a2, a3, a4⟩ := h
  exact ⟨F1, a1, a2, a3.later hb, a4.trans (Ky.of_below hb) a1⟩
/-- The yard beneath has changed, its runs are there as before. -/
theorem Yw.under {F F0 F0' : Nat → Prop} {w w' : World} {b y m : Nat} {Y' : Yv} {op : Option Nat} {ks : List Nat} (h1 : ¬ F y) (h2 : F m) (h3 : ∀ k, F0 k → F k) (h4 : ¬ F0 m) (h6 : Sy w y b m ks) (n : Nw F0 F0' w) (hP : Py w' b Y' op F0') (hK : Ky F0 w w') (hL : Live Y' ks) : Yo w w' b y m Y' op F := by
  have nm : ¬ F0' m := fun e => by
    rcases n m e with q | q
    · exact h4 q
    · have := h6.mp.lt; omega
  refine ⟨fun k => F k ∨ F0' k, fun k hk => ?_, fun k hk => .inl hk, ⟨fun e => ?_, .inl h2, F0', ks, fun k hk => .inr hk, nm, hP, h6.ky hK (fun e => h1 (h3 y e)) h4, hL⟩, hK.mono h3⟩
  · rcases hk with hk | hk
    · exact .inl hk
    · exact (n k hk).imp (h3 k) id
  · rcases e with e | e
    · exact h1 e
    · rcases n y e with q | q
      · exact h1 (h3 y q)
      · have := h6.tg.lt; omega
theorem live_same {Y Y' : Yv} {ks : List Nat} (h : Live Y ks) (e : Y'.there = Y.there) : Live Y' ks := by
  unfold Live
  rw [e]
  exact h
/-- A call of the yard beneath that writes its own cells alone. -/
theorem Yw.call1 {F F0 : Nat → Prop} {w w' : World} {b y m : Nat} {Y Y' : Yv} {op : Option Nat} {ks : List Nat} (h1 : ¬ F y) (h2 : F m) (h3 : ∀ k, F0 k → F k) (h4 : ¬ F0 m) (h6 : Sy w y b m ks) (fb : F0 b) (h7 : Live Y ks) (hP : Py w' b Y' op F0) (hK : Ky (fun k => k = b) w w') (e : Y'.there = Y.there) : Yo w w' b y m Y' op F :=
  Yw.under h1 h2 h3 h4 h6 (Nw.refl _ _) hP (hK.mono fun k q => by subst q; exact fb) (live_same h7 e)
set_option maxHeartbeats 2000000 in
/-- New (65), refused. -/
theorem ynew_hit {F : Nat → Prop} {b y m : Nat} {Y : Yv} {op : Option Nat} {w : World} (h : Yw w b y m Y op F) (hr : Y.rd = false) (hh : Y.hit = true) (hc : Y.cd ≠ 0) :
    Calls Tryz.prog 65 #[.pointer (some ⟨y, 0, none⟩)] w fun e w' => e = .returned (.tuple #[.int .i64 0, .int .i64 Y.cd]) ∧ Yo w w' b y m Y.tick op F := by
  obtain ⟨h1, h2, F0, ks, h3, h4, h5, h6, h7⟩ := h
  have HC := hide (new_hit h5 hr hh hc)
  have fb := h5.1
  have c0 := h6.c0
  have hcd : (Y.cd == 0) = false := by simpa using hc
  clear h5 hr hh hc
  have hm : ∀ w : World, (method 297 24 (.pointer (some ⟨b, 0, none⟩)) "New").run Tryz.prog w = .ok (153, .pointer (some ⟨b, 0, none⟩)) w := fun _ => by kernel_rfl
  go_enter Tryz.func65, Tryz.ntmps65
  go_wp2_with (first | (go_at_call 153; refine (unhide HC).mono ?_; rintro _ w1 ⟨rfl, hP, hK⟩))
  exact bodyPost_ret (v := .tuple #[.int .i64 0, .int .i64 Y.cd]) (by simp [results, Tryz.results65, go_sem]) rfl ⟨rfl, Yw.call1 h1 h2 h3 h4 h6 fb h7 hP hK rfl⟩
set_option maxHeartbeats 2000000 in
/-- New (65). -/
theorem ynew_ok {F : Nat → Prop} {b y m : Nat} {Y : Yv} {op : Option Nat} {w : World} (h : Yw w b y m Y op F) (hlt : Y.there.length = Y.runs.length) (hn : Y.runs.length ≤ 1048576) (hr : Y.rd = false) (hh : Y.hit = false) :
    Calls Tryz.prog 65 #[.pointer (some ⟨y, 0, none⟩)] w fun e w' => e = .returned (.tuple #[.int .i64 (Y.runs.length : Nat), .int .i64 0]) ∧ Yo w w' b y m Y.tick.newRun (some Y.runs.length) F := by
  obtain ⟨h1, h2, F0, ks, h3, h4, h5, h6, h7⟩ := h
  have HC := hide (new_ok h5 hn hr hh)
  have fb := h5.1
  have c0 := h6.c0
  have hnk : Y.runs.length ∉ ks := fun e => by
    have := (h7.2 _).1 e
    rw [List.getElem?_eq_none (by omega)] at this
    cases this
  have HNK := hide hnk
  have H6 := hide h6
  have H7 := hide h7
  have H3 := hide h3
  have HLT := hide hlt
  clear h5 hr hh hnk h6 h7 hlt h3
  have hm : ∀ w : World, (method 297 24 (.pointer (some ⟨b, 0, none⟩)) "New").run Tryz.prog w = .ok (153, .pointer (some ⟨b, 0, none⟩)) w := fun _ => by kernel_rfl
  go_enter Tryz.func65, Tryz.ntmps65
  go_wp2_with (first | (go_at_call 153; refine (unhide HC).mono ?_; rintro _ w1 ⟨rfl, F1, n1, m1, hP, hK⟩; have h61 := (unhide H6).ky hK (fun e => h1 (unhide H3 y e)) h4; have c1 := h61.c1; obtain ⟨o, hrun, hmp⟩ := putI h61.mp (unhide HNK); have H61 := hide h61; have HP := hide hP; have HK := hide hK; have HMP := hide hmp; have HN1 := hide n1; have HM1 := hide m1; clear hP hK hmp h61 n1 m1))
  have nm1 : ¬ F1 m := fun e => by
    rcases unhide HN1 m e with q | q
    · exact h4 q
    · have := (unhide H6).mp.lt; omega
  have hk2 : Ky (fun k => k = m) w1 (putO w1 m o) := ky_putO (F := fun k => k = m) o rfl (unhide H61).mp
  have nym : ¬ y = m := fun e => by subst e; exact h1 h2
  refine bodyPost_ret (v := .tuple #[.int .i64 (Y.runs.length : Nat), .int .i64 0]) (by simp [results, Tryz.results65, go_sem]) rfl ⟨rfl, fun k => F k ∨ F1 k, fun k hk => ?_, fun k hk => .inl hk, ⟨fun e => ?_, .inl h2, F1, ks ++ [Y.runs.length], fun k hk => .inr hk, nm1, (unhide HP).ky hk2 (fun k e q => by subst e; exact nm1 q), ⟨hk2.tg (unhide H61).tg nym, hk2.cell (unhide H61).c0 nym, hk2.cell (unhide H61).c1 nym, unhide HMP⟩, ?_⟩, ?_⟩
  · rcases hk with hk | hk
    · exact .inl hk
    · exact (unhide HN1 k hk).imp (unhide H3 k) id
  · rcases e with e | e
    · exact h1 e
    · rcases unhide HN1 y e with q | q
      · exact h1 (unhide H3 y q)
      · have := (unhide H6).tg.lt; omega
  · obtain ⟨d1, d2⟩ := unhide H7
    refine ⟨List.nodup_append.2 ⟨d1, by simp, fun a ha c hc e => ?_⟩, fun i => ?_⟩
    · simp at hc
      subst e
      exact unhide HNK (hc ▸ ha)
    · change i ∈ ks ++ [Y.runs.length] ↔ (Y.there ++ [true])[i]? = some true
      rw [List.mem_append, d2]
      by_cases hi : i < Y.there.length
      · rw [List.getElem?_append_left hi]
        constructor
        · rintro (q | q)
          · exact q
          · simp at q; have := unhide HLT; omega
        · exact .inl
      · rw [List.getElem?_append_right (by omega)]
        by_cases he : i = Y.runs.length
        · subst he
          have := unhide HLT
          simp [this]
        · have hx := unhide HLT
          rw [List.getElem?_eq_none (l := Y.there) (by omega), List.getElem?_eq_none (by simp; omega)]
          simp [he]
  · exact ((unhide HK).mono (unhide H3)).trans (hk2.mono fun k e => by subst e; exact h2) (Nw.refl _ _)
set_option maxHeartbeats 2000000 in
/-- Drop (37) of a run that is there. -/
theorem ydrop_any {F : Nat → Prop} {b y m : Nat} {Y : Yv} {op : Option Nat} {w : World} {i : Nat} (h : Yw w b y m Y op F) (hi : Y.there[i]? = some true) (hn : Y.runs.length ≤ 1048576) :
    Calls Tryz.prog 37 #[.pointer (some ⟨y, 0, none⟩), .int .i64 i] w fun e w' => e = .returned (.int .i64 0) ∧ Yo w w' b y m (Y.drop i) op F := by
  obtain ⟨h1, h2, F0, ks, h3, h4, h5, h6, h7⟩ := h
  have fb := h5.1
  have c0 := h6.c0
  have c1 := h6.c1
  have hik : i ∈ ks := (h7.2 i).2 hi
  obtain ⟨o, hrun0, hmp⟩ := delI h6.mp hik h7.1
  have hrun := hrun0
  have hk2 : Ky (fun k => k = m) w (putO w m o) := ky_putO (F := fun k => k = m) o rfl h6.mp
  have nym : ¬ y = m := fun e => by subst e; exact h1 h2
  have HC := hide (drop_any (h5.ky hk2 (fun k e q => by subst e; exact h4 q)) hi hn)
  have e0 := hk2.cell c0 nym
  have H6 : Hid (Sy (putO w m o) y b m (ks.erase i)) := ⟨hk2.tg h6.tg nym, hk2.cell h6.c0 nym, hk2.cell h6.c1 nym, hmp⟩
  have HK2 := hide hk2
  have H7 := hide h7
  clear h5 h6 h7 hmp hk2 hrun0
  have hm : ∀ w : World, (method 297 24 (.pointer (some ⟨b, 0, none⟩)) "Drop").run Tryz.prog w = .ok (151, .pointer (some ⟨b, 0, none⟩)) w := fun _ => by kernel_rfl
  go_enter Tryz.func37, Tryz.ntmps37
  go_wp2_with (first | (go_at_call 151; refine (unhide HC).mono ?_; rintro _ w1 ⟨rfl, F1, n1, m1, hP, hK⟩))
  go_ret
  refine ⟨rfl, ?_⟩
  have hlive : Live (Y.drop i) (ks.erase i) := by
    obtain ⟨d1, d2⟩ := unhide H7
    refine ⟨d1.erase i, fun j => ?_⟩
    rw [d1.mem_erase_iff, d2]
    change _ ↔ (Y.there.set i false)[j]? = some true
    rw [List.getElem?_set]
    by_cases e : i = j
    · subst e
      rw [if_pos rfl]
      split <;> simp
    · rw [if_neg e]
      constructor
      · exact fun q => q.2
      · exact fun q => ⟨fun e2 => e e2.symm, q⟩
  obtain ⟨F2, a1, a2, a3, a4⟩ := Yw.under h1 h2 h3 h4 (unhide H6) n1 hP hK hlive
  exact ⟨F2, fun k hk => (a1 k hk).imp id (fun q => by have := (unhide HK2).size; omega), a2, a3, ((unhide HK2).mono fun k e => by subst e; exact h2).trans a4 (Nw.refl _ _)⟩
end Go.Proofs.YtcbenpodohjbiaaGreat
set_option linter.unusedSimpArgs false
set_option linter.unusedVariables false
set_option maxRecDepth 100000
namespace Go.Proofs.YtcbenpodohjbiaaGreat
open Go.RowKit Go.Sort

set_option maxHeartbeats 2000000 in
/-- Next (99), refused. -/
theorem ynext_hit {F : Nat → Prop} {b y m : Nat} {Y : Yv} {op : Option Nat} {w : World} (i : Int) (h : Yw w b y m Y op F) (hr : Y.rd = false) (hh : Y.hit = true) (hc : Y.cd ≠ 0) :
    Calls Tryz.prog 99 #[.pointer (some ⟨y, 0, none⟩), .int .i64 i] w fun e w' => e = .returned (.tuple #[.slice none 0 0, .bool false, .int .i64 Y.cd]) ∧ Yo w w' b y m Y.tick op F := by
  obtain ⟨h1, h2, F0, ks, h3, h4, h5, h6, h7⟩ := h
  have fb := h5.1
  have c0 := h6.c0
  have HC := hide (next_hit (.int .i64 i) h5 hr hh hc)
  have HO := hide (fun w => own_no Y.cd false w (.inl rfl))
  clear h5 hr hh hc
  have hm : ∀ w : World, (method 297 24 (.pointer (some ⟨b, 0, none⟩)) "Next").run Tryz.prog w = .ok (154, .pointer (some ⟨b, 0, none⟩)) w := fun _ => by kernel_rfl
  go_enter Tryz.func99, Tryz.ntmps99
  go_wp2_with (first | (go_at_call 154; refine (unhide HC).mono ?_; rintro _ w1 ⟨rfl, hP, hK⟩) | (go_at_call 60; refine (unhide HO _).mono ?_; rintro _ w9 ⟨rfl, hw9⟩; rw [hw9]; clear hw9))
  exact bodyPost_ret (v := .tuple #[.slice none 0 0, .bool false, .int .i64 Y.cd]) (by simp [results, Tryz.results99, go_sem]) rfl ⟨rfl, Yw.call1 h1 h2 h3 h4 h6 fb h7 hP hK rfl⟩
set_option maxHeartbeats 2000000 in
/-- Next (99), behind the last row. -/
theorem ynext_end {F : Nat → Prop} {b y m : Nat} {Y : Yv} {op : Option Nat} {w : World} {i : Nat} (h : Yw w b y m Y op F) (hop : op ≠ some i) (hi : Y.there[i]? = some true) (hrs : Y.runs[i]? = some []) (hn : Y.runs.length ≤ 1048576) (hr : Y.rd = false) (hh : Y.hit = false) :
    Calls Tryz.prog 99 #[.pointer (some ⟨y, 0, none⟩), .int .i64 i] w fun e w' => e = .returned (.tuple #[.slice none 0 0, .bool false, .int .i64 0]) ∧ Yo w w' b y m Y.tick op F := by
  obtain ⟨h1, h2, F0, ks, h3, h4, h5, h6, h7⟩ := h
  have fb := h5.1
  have c0 := h6.c0
  have HC := hide (next_end h5 hop hi hrs hn hr hh)
  have HO := hide (fun w => own_no 0 false w (.inl rfl))
  clear h5 hr hh
  have hm : ∀ w : World, (method 297 24 (.pointer (some ⟨b, 0, none⟩)) "Next").run Tryz.prog w = .ok (154, .pointer (some ⟨b, 0, none⟩)) w := fun _ => by kernel_rfl
  go_enter Tryz.func99, Tryz.ntmps99
  go_wp2_with (first | (go_at_call 154; refine (unhide HC).mono ?_; rintro _ w1 ⟨rfl, hP, hK⟩) | (go_at_call 60; refine (unhide HO _).mono ?_; rintro _ w9 ⟨rfl, hw9⟩; rw [hw9]; clear hw9))
  exact bodyPost_ret (v := .tuple #[.slice none 0 0, .bool false, .int .i64 0]) (by simp [results, Tryz.results99, go_sem]) rfl ⟨rfl, Yw.call1 h1 h2 h3 h4 h6 fb h7 hP hK rfl⟩
set_option maxHeartbeats 2000000 in
/-- Next (99), of a row. -/
theorem ynext_row {F : Nat → Prop} {b y m : Nat} {Y : Yv} {op : Option Nat} {w : World} {i : Nat} {r : List Val} {rs : List (List Val)} (h : Yw w b y m Y op F) (hop : op ≠ some i) (hi : Y.there[i]? = some true) (hrs : Y.runs[i]? = some (r :: rs)) (hn : Y.runs.length ≤ 1048576) (g0 : 0 ≤ Y.held) (g1 : Y.held ≤ 1048576) (hr : Y.rd = false) (hh : Y.hit = false) :
    Calls Tryz.prog 99 #[.pointer (some ⟨y, 0, none⟩), .int .i64 i] w fun e w' => ∃ v, e = .returned (.tuple #[v, .bool true, .int .i64 0]) ∧ Rw w' v (cleanR r) ∧ Yo w w' b y m ((Y.tick.read i rs).hold 1) op F := by
  obtain ⟨h1, h2, F0, ks, h3, h4, h5, h6, h7⟩ := h
  have fb := h5.1
  have c0 := h6.c0
  have HC := hide (next_row h5 hop hi hrs hn g0 g1 hr hh)
  clear h5 hr hh
  have hm : ∀ w : World, (method 297 24 (.pointer (some ⟨b, 0, none⟩)) "Next").run Tryz.prog w = .ok (154, .pointer (some ⟨b, 0, none⟩)) w := fun _ => by kernel_rfl
  go_enter Tryz.func99, Tryz.ntmps99
  go_wp2_with (first | (go_at_call 154; refine (unhide HC).mono ?_; rintro _ w1 ⟨v1, rfl, ⟨a1, c1, rfl, hq1, hl1⟩, F1, n1, m1, hP, hK⟩; have HO := hide (own_yes a1 c1 r w1 hl1 hq1.at); clear hq1) | (go_at_call 60; refine (unhide HO).mono ?_; rintro _ w2 ⟨v2, rfl, hv2, hb2⟩))
  exact bodyPost_ret (v := .tuple #[v2, .bool true, .int .i64 0]) (by simp [results, Tryz.results99, go_sem]) rfl ⟨v2, rfl, hv2, (Yw.under h1 h2 h3 h4 h6 n1 hP hK (live_same h7 rfl)).later hb2⟩
set_option maxHeartbeats 2000000 in
/-- letGo (96). -/
theorem letGo_any {F : Nat → Prop} {b y m : Nat} {Y : Yv} {op : Option Nat} {w : World} (h : Yw w b y m Y op F) (k : Nat) (h0 : (k : Int) ≤ Y.held) (g1 : Y.held ≤ 1048576) :
    Calls Tryz.prog 96 #[.pointer (some ⟨y, 0, none⟩), .int .i64 k] w fun e w' => e = .returned (.tuple #[]) ∧ Yo w w' b y m (if k = 0 then Y else Y.hold (-(k : Int))) op F := by
  by_cases hk : k = 0
  · subst hk
    rw [if_pos rfl]
    go_enter Tryz.func96, Tryz.ntmps96
    go_wp2
    go_end0
    exact ⟨rfl, F, Nw.refl _ _, fun _ q => q, h, Ky.refl _ _⟩
  · rw [if_neg hk]
    have hk1 : (0 : Int) < (k : Int) := by omega
    obtain ⟨h1, h2, F0, ks, h3, h4, h5, h6, h7⟩ := h
    have fb := h5.1
    have c0 := h6.c0
    have HC := hide (let_any h5 (k : Int) hk1 (by omega) g1)
    clear h5
    have hm : ∀ w : World, (method 297 24 (.pointer (some ⟨b, 0, none⟩)) "Let").run Tryz.prog w = .ok (152, .pointer (some ⟨b, 0, none⟩)) w := fun _ => by kernel_rfl
    go_enter Tryz.func96, Tryz.ntmps96
    go_wp2_with (first | (go_at_call 152; refine (unhide HC).mono ?_; rintro _ w1 ⟨rfl, hP, hK⟩))
    go_end0
    exact ⟨rfl, Yw.call1 h1 h2 h3 h4 h6 fb h7 hP hK rfl⟩
set_option maxHeartbeats 2000000 in
/-- A row is taken by the sink that came in (160), refused. -/
theorem otake_hit {F : Nat → Prop} {b y m : Nat} {Y : Yv} {op : Option Nat} {w : World} (u : Value) (h : Yw w b y m Y op F) (hr : Y.rd = false) (hh : Y.hit = true) (hc : Y.cd ≠ 0) :
    Calls Tryz.prog 160 #[.agg #[.pointer (some ⟨y, 0, none⟩), .iface 24 (.pointer (some ⟨b, 0, none⟩))], u] w fun e w' => e = .returned (.int .i64 Y.cd) ∧ Yo w w' b y m Y.tick op F := by
  obtain ⟨h1, h2, F0, ks, h3, h4, h5, h6, h7⟩ := h
  have fb := h5.1
  have c0 := h6.c0
  obtain ⟨W, hW⟩ : ∃ W, w.alloc (.cells #[.pointer (some ⟨y, 0, none⟩), .iface 24 (.pointer (some ⟨b, 0, none⟩))] 65) = W := ⟨_, rfl⟩
  have hbW : Below w.heap.size w W := by rw [← hW]; exact below_alloc (Below.refl _ _) _
  have e1 : W.cell? ⟨w.heap.size, 1, none⟩ = some (.iface 24 (.pointer (some ⟨b, 0, none⟩))) := by rw [← hW]; simp [go_sem]
  have HC := hide (take_hit u (h5.later hbW) hr hh hc)
  have hcd : (Y.cd == 0) = false := by simpa using hc
  clear h5 hr hh hc
  have hm : ∀ w : World, (method 297 24 (.pointer (some ⟨b, 0, none⟩)) "Take").run Tryz.prog w = .ok (155, .pointer (some ⟨b, 0, none⟩)) w := fun _ => by kernel_rfl
  go_enter Tryz.func160, Tryz.ntmps160
  go_wp2_with (first | (go_at_call 155; refine (unhide HC).mono ?_; rintro _ w1 ⟨rfl, hP, hK⟩))
  go_ret
  have h6' : Sy W y b m ks := h6.ky (G := fun _ => False) (Ky.of_below hbW) id id
  obtain ⟨F2, a1, a2, a3, a4⟩ := Yw.call1 h1 h2 h3 h4 h6' fb h7 hP hK rfl
  exact ⟨rfl, F2, fun k hk => (a1 k hk).imp id (fun q => by have := hbW.size; omega), a2, a3, (Ky.of_below hbW).trans a4 (Nw.refl _ _)⟩
theorem Py.cut {F : Nat → Prop} {w : World} {b : Nat} {Y : Yv} {op : Option Nat} (h : Py w b Y op F) : Py w b Y op (fun k => F k ∧ k < w.heap.size) := by
  obtain ⟨fb, vO, vR, vT, us, hB, hl⟩ := h
  exact ⟨⟨fb, hB.tg.lt⟩, vO, vR, vT, us, hB, hl.o, fun g e => ⟨hl.fo g e, (hl.o.tg e).lt⟩, hl.r, fun g e => ⟨hl.fr g e, (own_tg hl.r e).lt⟩, hl.l, hl.t, fun g e => ⟨hl.ft g e, (own_tg hl.t e).lt⟩, hl.lt, fun i u rs hu hr => ⟨(hl.e i u rs hu hr).1, fun g e => ⟨⟨((hl.e i u rs hu hr).2 g e).1, ((hl.e i u rs hu hr).2 g e).2.2.lt⟩, ((hl.e i u rs hu hr).2 g e).2⟩⟩, hl.d⟩
theorem Yw.cut {F : Nat → Prop} {w : World} {b y m : Nat} {Y : Yv} {op : Option Nat} (h : Yw w b y m Y op F) : Yw w b y m Y op (fun k => F k ∧ k < w.heap.size) := by
  obtain ⟨h1, h2, F0, ks, h3, h4, h5, h6, h7⟩ := h
  exact ⟨fun e => h1 e.1, ⟨h2, h6.mp.lt⟩, fun k => F0 k ∧ k < w.heap.size, ks, fun k e => ⟨h3 k e.1, e.2⟩, fun e => h4 e.1, h5.cut, h6, h7⟩
theorem Yo.wide {F : Nat → Prop} {w w' : World} {b y m : Nat} {Y : Yv} {op : Option Nat} (h : Yo w w' b y m Y op (fun k => F k ∧ k < w.heap.size)) (hy : ¬ F y) : Yo w w' b y m Y op F := by
  obtain ⟨F1, a1, a2, ⟨b1, b2, F0, ks, b3, b4, b5⟩, a4⟩ := h
  refine ⟨fun k => F k ∨ F1 k, fun k hk => ?_, fun k hk => .inl hk, ⟨fun e => ?_, .inr b2, F0, ks, fun k hk => .inr (b3 k hk), b4, b5⟩, a4.mono fun k e => e.1⟩
  · rcases hk with hk | hk
    · exact .inl hk
    · exact (a1 k hk).imp And.left id
  · rcases e with e | e
    · exact hy e
    · exact b1 e
set_option maxHeartbeats 2000000 in
/-- A row is taken by the sink that came in (160). -/
theorem otake_ok {F : Nat → Prop} {b y m : Nat} {Y : Yv} {op : Option Nat} {w : World} {u : Value} {r : List Val} (h : Yw w b y m Y op F) (hu : Rw w u r) (ho : Y.out.length ≤ 1048576) (g0 : 1 ≤ Y.held) (g1 : Y.held ≤ 1048576) (hr : Y.rd = false) (hh : Y.hit = false) :
    Calls Tryz.prog 160 #[.agg #[.pointer (some ⟨y, 0, none⟩), .iface 24 (.pointer (some ⟨b, 0, none⟩))], u] w fun e w' => e = .returned (.int .i64 0) ∧ Yo w w' b y m ((Y.tick.push r).hold (-1)) op F := by
  have hy0 := h.1
  replace h := h.cut
  obtain ⟨h1, h2, F0, ks, h3, h4, h5, h6, h7⟩ := h
  have fb := h5.1
  have c0 := h6.c0
  obtain ⟨W, hW⟩ : ∃ W, w.alloc (.cells #[.pointer (some ⟨y, 0, none⟩), .iface 24 (.pointer (some ⟨b, 0, none⟩))] 65) = W := ⟨_, rfl⟩
  have hbW : Below w.heap.size w W := by rw [← hW]; exact below_alloc (Below.refl _ _) _
  have e1 : W.cell? ⟨w.heap.size, 1, none⟩ = some (.iface 24 (.pointer (some ⟨b, 0, none⟩))) := by rw [← hW]; simp [go_sem]
  have e0 : W.cell? ⟨w.heap.size, 0, none⟩ = some (.pointer (some ⟨y, 0, none⟩)) := by rw [← hW]; simp [go_sem]
  have HC := hide (take_ok (h5.later hbW) (hu.later hbW) ho hr hh)
  have H6 : Hid (Sy W y b m ks) := h6.ky (G := fun _ => False) (Ky.of_below hbW) id id
  have HX : Hid (¬ F0 w.heap.size) := fun e => by have := (h3 _ e).2; omega
  have H3 := hide h3
  clear hr hh hu h5 h6 h3 c0
  have hm : ∀ w : World, (method 297 24 (.pointer (some ⟨b, 0, none⟩)) "Take").run Tryz.prog w = .ok (155, .pointer (some ⟨b, 0, none⟩)) w := fun _ => by kernel_rfl
  have hm2 : ∀ w : World, (method 297 24 (.pointer (some ⟨b, 0, none⟩)) "Let").run Tryz.prog w = .ok (152, .pointer (some ⟨b, 0, none⟩)) w := fun _ => by kernel_rfl
  have hW65 := hW
  have HW := hide hW
  clear hW65
  go_enter Tryz.func160, Tryz.ntmps160
  go_wp2_with (first | (go_at_call 155; refine (unhide HC).mono ?_; rintro _ w1 ⟨rfl, F1, n1, m1, hP, hK⟩; have d0 := hK.cell e0 (unhide HX); have h61 := (unhide H6).ky hK (fun e => h1 (unhide H3 y e)) h4; have c01 := h61.c0; have HL := hide (let_any hP 1 (by omega) (by show 0 ≤ Y.held - 1; omega) g1); have fb1 := hP.1; have H61 := hide h61; have HK := hide hK; have HN1 := hide n1; clear hP hK h61 n1) | (go_at_call 152; refine (unhide HL).mono ?_; rintro _ w2 ⟨rfl, hP2, hK2⟩))
  go_ret
  refine ⟨rfl, Yo.wide ?_ hy0⟩
  have q := Yw.under h1 h2 (unhide H3) h4 (unhide H6) (unhide HN1) hP2 ((unhide HK).trans (hK2.mono (G := F1) fun k e => by subst e; exact fb1) (unhide HN1)) (live_same h7 rfl)
  obtain ⟨F2, a1, a2, a3, a4⟩ := q
  exact ⟨F2, fun k hk => (a1 k hk).imp id (fun q => by have := hbW.size; omega), a2, a3, (Ky.of_below hbW).trans a4 (Nw.refl _ _)⟩
set_option maxHeartbeats 2000000 in
/-- A row is put into a run (162), refused. -/
theorem ptake_hit {F : Nat → Prop} {b y m : Nat} {Y : Yv} {op : Option Nat} {w : World} (i : Nat) (u : Value) (h : Yw w b y m Y op F) (hr : Y.rd = false) (hh : Y.hit = true) (hc : Y.cd ≠ 0) :
    Calls Tryz.prog 162 #[.agg #[.pointer (some ⟨y, 0, none⟩), .int .i64 i], u] w fun e w' => e = .returned (.int .i64 Y.cd) ∧ Yo w w' b y m Y.tick op F := by
  obtain ⟨h1, h2, F0, ks, h3, h4, h5, h6, h7⟩ := h
  have fb := h5.1
  have c0 := h6.c0
  obtain ⟨W, hW⟩ : ∃ W, w.alloc (.cells #[.pointer (some ⟨y, 0, none⟩), .int .i64 (i : Int)] 114) = W := ⟨_, rfl⟩
  have hbW : Below w.heap.size w W := by rw [← hW]; exact below_alloc (Below.refl _ _) _
  have e1 : W.cell? ⟨w.heap.size, 1, none⟩ = some (.int .i64 (i : Int)) := by rw [← hW]; simp [go_sem]
  have e0 : W.cell? ⟨w.heap.size, 0, none⟩ = some (.pointer (some ⟨y, 0, none⟩)) := by rw [← hW]; simp [go_sem]
  have hbd : Below w.heap.size w W.drew := hbW.drew
  have HC := hide (put_hit (.int .i64 i) u (h5.later hbd) hr hh hc)
  have h6' : Sy W.drew y b m ks := h6.ky (G := fun _ => False) (Ky.of_below hbd) id id
  have d0 := h6'.c0
  have H6 := hide h6'
  clear h5 hr hh hc h6' h6 c0
  have hm : ∀ w : World, (method 297 24 (.pointer (some ⟨b, 0, none⟩)) "Put").run Tryz.prog w = .ok (167, .pointer (some ⟨b, 0, none⟩)) w := fun _ => by kernel_rfl
  go_enter Tryz.func162, Tryz.ntmps162
  go_upto_region 1 with fail
  try rw [hW]
  go_region_with (first | (go_at_call 167; refine (unhide HC).mono ?_; rintro _ w1 ⟨rfl, hP, hK⟩))
  all_goals (go_wp2; go_ret)
  all_goals (
    obtain ⟨F2, a1, a2, a3, a4⟩ := Yw.call1 h1 h2 h3 h4 (unhide H6) fb h7 hP hK rfl
    exact ⟨rfl, F2, fun k hk => (a1 k hk).imp id (fun q => by have := hbd.size; omega), a2, a3, (Ky.of_below hbd).trans a4 (Nw.refl _ _)⟩)
set_option maxHeartbeats 2000000 in
/-- A row is put into a run (162). -/
theorem ptake_ok {F : Nat → Prop} {b y m : Nat} {Y : Yv} {w : World} {u : Value} {r : List Val} {i : Nat} {rs : List (List Val)} (h : Yw w b y m Y (some i) F) (hur : Rw w u r) (hi : Y.there[i]? = some true) (hrs : Y.runs[i]? = some rs) (hn : Y.runs.length ≤ 1048576) (hm' : rs.length ≤ 1048576) (g0 : 1 ≤ Y.held) (g1 : Y.held ≤ 1048576) (g2 : 0 ≤ Y.puts) (g3 : Y.puts ≤ 1099511627776) (hr : Y.rd = false) (hh : Y.hit = false) :
    Calls Tryz.prog 162 #[.agg #[.pointer (some ⟨y, 0, none⟩), .int .i64 i], u] w fun e w' => e = .returned (.int .i64 0) ∧ Yo w w' b y m ((Y.tick.put i (rs ++ [r])).hold (-1)) (some i) F := by
  obtain ⟨h1, h2, F0, ks, h3, h4, h5, h6, h7⟩ := h
  have fb := h5.1
  have c0 := h6.c0
  obtain ⟨W, hW⟩ : ∃ W, w.alloc (.cells #[.pointer (some ⟨y, 0, none⟩), .int .i64 (i : Int)] 114) = W := ⟨_, rfl⟩
  have hbW : Below w.heap.size w W := by rw [← hW]; exact below_alloc (Below.refl _ _) _
  have e1 : W.cell? ⟨w.heap.size, 1, none⟩ = some (.int .i64 (i : Int)) := by rw [← hW]; simp [go_sem]
  have e0 : W.cell? ⟨w.heap.size, 0, none⟩ = some (.pointer (some ⟨y, 0, none⟩)) := by rw [← hW]; simp [go_sem]
  have hbd : Below w.heap.size w W.drew := hbW.drew
  have HC := hide (put_ok (h5.later hbd) (hur.later hbd) hi hrs hn hm' g0 g1 g2 g3 hr hh)
  have h6' : Sy W.drew y b m ks := h6.ky (G := fun _ => False) (Ky.of_below hbd) id id
  have d0 := h6'.c0
  have H6 := hide h6'
  have H7 := hide h7
  clear h5 hr hh h6' h6 c0 hur hi hrs g0 g1 g2 g3
  have hm : ∀ w : World, (method 297 24 (.pointer (some ⟨b, 0, none⟩)) "Put").run Tryz.prog w = .ok (167, .pointer (some ⟨b, 0, none⟩)) w := fun _ => by kernel_rfl
  go_enter Tryz.func162, Tryz.ntmps162
  go_upto_region 1 with fail
  try rw [hW]
  go_region_with (first | (go_at_call 167; refine (unhide HC).mono ?_; rintro _ w1 ⟨rfl, F1, n1, m1, hP, hK⟩))
  all_goals (go_wp2; go_ret)
  all_goals (
    obtain ⟨F2, a1, a2, a3, a4⟩ := Yw.under h1 h2 h3 h4 (unhide H6) n1 hP hK (live_same (unhide H7) rfl)
    exact ⟨rfl, F2, fun k hk => (a1 k hk).imp id (fun q => by have := hbd.size; omega), a2, a3, (Ky.of_below hbd).trans a4 (Nw.refl _ _)⟩)
end Go.Proofs.YtcbenpodohjbiaaGreat
set_option linter.unusedSimpArgs false
set_option linter.unusedVariables false
set_option maxRecDepth 100000
namespace Go.Proofs.YtcbenpodohjbiaaGreat
open Go.RowKit Go.Sort

/-- A refusal is an error, or there will be none for so many calls. -/
def Safe (Y : Yv) (n : Nat) : Prop := Y.cd ≠ 0 ∨ (Y.rf = 0 ∧ 0 ≤ Y.calls ∧ Y.calls + n < 4611686018427387904)
theorem Safe.hit {Y : Yv} {n : Nat} (h : Safe Y (n + 1)) (hh : Y.hit = true) : Y.cd ≠ 0 := by
  rcases h with h | ⟨h1, h2, h3⟩
  · exact h
  · exfalso
    unfold Yv.hit at hh
    rw [IntWalk.i64_in _ (by omega), h1] at hh
    simp at hh
    omega
theorem Safe.tick {Y : Yv} {n : Nat} (h : Safe Y (n + 1)) : Safe Y.tick n := by
  rcases h with h | ⟨h1, h2, h3⟩
  · exact .inl h
  · refine .inr ⟨h1, ?_, ?_⟩
    · show 0 ≤ IntKind.i64.wrap (Y.calls + 1)
      rw [IntWalk.i64_in _ (by omega)]; omega
    · show IntKind.i64.wrap (Y.calls + 1) + n < _
      rw [IntWalk.i64_in _ (by omega)]; omega
theorem Safe.of {Y Y' : Yv} {n : Nat} (h : Safe Y n) (h1 : Y'.cd = Y.cd) (h2 : Y'.rf = Y.rf) (h3 : Y'.calls = Y.calls) : Safe Y' n := by
  unfold Safe at *
  rw [h1, h2, h3]
  exact h
theorem Safe.less {Y : Yv} {n k : Nat} (h : Safe Y n) (hk : k ≤ n) : Safe Y k := by
  rcases h with h | ⟨h1, h2, h3⟩
  · exact .inl h
  · exact .inr ⟨h1, h2, by omega⟩
theorem tick_hit {Y : Yv} (h : Y.hit = true) : Y.tick.rd = true ∧ Y.tick.calls = Y.tick.rf := by
  refine ⟨h, ?_⟩
  unfold Yv.hit at h
  show IntKind.i64.wrap (Y.calls + 1) = Y.rf
  simpa using h
/-- A sink: what came in, or a run. -/
def snkA (b y : Nat) : Option Nat → Value
  | none => .agg #[.pointer (some ⟨y, 0, none⟩), .iface 24 (.pointer (some ⟨b, 0, none⟩))]
  | some i => .agg #[.pointer (some ⟨y, 0, none⟩), .int .i64 (i : Nat)]
def snkT : Option Nat → Nat
  | none => 65
  | some _ => 114
def snkF : Option Nat → Nat
  | none => 160
  | some _ => 162
def snkV (b y : Nat) (S : Option Nat) : Value := .iface (snkT S) (snkA b y S)
/-- A sink can take n rows that are held. -/
structure SnkOk (S op : Option Nat) (Y : Yv) (n : Nat) : Prop where
  rd : Y.rd = false
  h0 : (n : Int) ≤ Y.held
  h1 : Y.held ≤ 1048576
  hm : Y.held ≤ Y.most
  rl : Y.runs.length ≤ 1048576
  o : S = none → Y.out.length + n ≤ 1048577
  r : ∀ i, S = some i → op = some i ∧ Y.there[i]? = some true ∧ (∃ rs, Y.runs[i]? = some rs ∧ rs.length + n ≤ 1048577) ∧ 0 ≤ Y.puts ∧ Y.puts + n ≤ 1099511627776
/-- These rows have gone into the sink. -/
structure Mv (S : Option Nat) (l : List (List Val)) (Y Y' : Yv) : Prop where
  rf : Y'.rf = Y.rf
  cd : Y'.cd = Y.cd
  held : Y'.held = Y.held - l.length
  most : Y'.most = Y.most
  there : Y'.there = Y.there
  o : S = none → Y'.out = Y.out ++ l ∧ Y'.runs = Y.runs ∧ Y'.puts = Y.puts
  r : ∀ i, S = some i → Y'.out = Y.out ∧ (∀ rs, Y.runs[i]? = some rs → Y'.runs = Y.runs.set i (rs ++ l)) ∧ Y'.puts = Y.puts + l.length
theorem Mv.trans {S : Option Nat} {l k : List (List Val)} {Y Y1 Y2 : Yv} (h : Mv S l Y Y1) (h2 : Mv S k Y1 Y2) (hr : ∀ i, S = some i → ∃ rs, Y.runs[i]? = some rs) : Mv S (l ++ k) Y Y2 := by
  refine ⟨h2.rf.trans h.rf, h2.cd.trans h.cd, by rw [h2.held, h.held, List.length_append]; omega, h2.most.trans h.most, h2.there.trans h.there, fun e => ?_, fun i e => ?_⟩
  · obtain ⟨a1, a2, a3⟩ := h.o e
    obtain ⟨b1, b2, b3⟩ := h2.o e
    exact ⟨by rw [b1, a1, List.append_assoc], b2.trans a2, b3.trans a3⟩
  · obtain ⟨a1, a2, a3⟩ := h.r i e
    obtain ⟨b1, b2, b3⟩ := h2.r i e
    refine ⟨b1.trans a1, fun rs hrs => ?_, by rw [b3, a3, List.length_append]; omega⟩
    have hi : i < Y.runs.length := (List.getElem?_eq_some_iff.1 hrs).1
    have e1 := a2 rs hrs
    have e2 := b2 (rs ++ l) (by rw [e1, List.getElem?_set, if_pos rfl, if_pos hi])
    rw [e2, e1, List.set_set, List.append_assoc]
theorem hold_most {Y : Yv} {k : Int} (h : Y.held + k ≤ Y.most) : (Y.hold k).most = Y.most := by
  show (if Y.held + k > Y.most then _ else _) = _
  rw [if_neg (by omega)]
/-- What a sink answers to a row. -/
def TakeP (b y m : Nat) (S op : Option Nat) (Y : Yv) (n : Nat) (r : List Val) (F : Nat → Prop) (w : World) (e : Ending) (w' : World) : Prop :=
  ∃ Y' : Yv, ∃ c : Int, e = .returned (.int .i64 c) ∧ Yo w w' b y m Y' op F ∧ ((c = 0 ∧ Mv S [r] Y Y' ∧ SnkOk S op Y' n ∧ Safe Y' n) ∨ (c = Y.cd ∧ Y.cd ≠ 0 ∧ Mv S [] Y Y' ∧ Y'.rd = true ∧ Y'.calls = Y'.rf))
theorem mv_tick (S : Option Nat) (Y : Yv) : Mv S [] Y Y.tick :=
  ⟨rfl, rfl, by simp [Yv.tick], rfl, rfl, fun _ => ⟨by simp [Yv.tick], rfl, rfl⟩, fun i _ => ⟨rfl, fun rs hrs => by
    rw [List.append_nil]
    have hi : i < Y.runs.length := (List.getElem?_eq_some_iff.1 hrs).1
    show Y.runs = Y.runs.set i rs
    have : Y.runs[i] = rs := by rw [List.getElem?_eq_getElem hi] at hrs; injection hrs
    rw [← this, List.set_getElem_self], by simp [Yv.tick]⟩⟩
theorem stake {F : Nat → Prop} {b y m n : Nat} {Y : Yv} {S op : Option Nat} {w : World} {u : Value} {r : List Val} (h : Yw w b y m Y op F) (hu : Rw w u r) (hS : SnkOk S op Y (n + 1)) (hs : Safe Y (n + 1)) :
    Calls Tryz.prog (snkF S) #[snkA b y S, u] w fun e w' => TakeP b y m S op Y n r F w e w' := by
  cases hh : Y.hit
  · have hrd : Y.tick.rd = false := hh
    have h0 := hS.h0
    cases S with
    | none =>
      have ho := hS.o rfl
      refine (otake_ok h hu (by omega) (by omega) hS.h1 hS.rd hh).mono ?_
      rintro _ w' ⟨rfl, hY⟩
      have em : ((Y.tick.push r).hold (-1)).most = Y.most := hold_most (by show Y.held + -1 ≤ Y.most; have := hS.hm; omega)
      refine ⟨_, 0, rfl, hY, .inl ⟨rfl, ⟨rfl, rfl, by simp [Yv.hold, Yv.push, Yv.tick]; omega, em, rfl, fun _ => ⟨rfl, rfl, rfl⟩, fun i e => (by cases e)⟩, ⟨hrd, ?_, ?_, ?_, hS.rl, fun _ => ?_, fun i e => (by cases e)⟩, hs.tick.of rfl rfl rfl⟩⟩
      · show (n : Int) ≤ Y.held + -1; omega
      · show Y.held + -1 ≤ _; have := hS.h1; omega
      · rw [em]; show Y.held + -1 ≤ _; have := hS.hm; omega
      · show (Y.out ++ [r]).length + n ≤ _; rw [List.length_append]; simp; omega
    | some i =>
      obtain ⟨rfl, r2, ⟨rs, r3, r4⟩, r5, r6⟩ := hS.r i rfl
      have hi : i < Y.runs.length := (List.getElem?_eq_some_iff.1 r3).1
      refine (ptake_ok h hu r2 r3 hS.rl (by omega) (by omega) hS.h1 r5 (by omega) hS.rd hh).mono ?_
      rintro _ w' ⟨rfl, hY⟩
      have em : ((Y.tick.put i (rs ++ [r])).hold (-1)).most = Y.most := hold_most (by show Y.held + -1 ≤ Y.most; have := hS.hm; omega)
      refine ⟨_, 0, rfl, hY, .inl ⟨rfl, ⟨rfl, rfl, by simp [Yv.hold, Yv.put, Yv.tick]; omega, em, rfl, fun e => (by cases e), fun j e => by
        injection e with e
        subst e
        refine ⟨rfl, fun rs2 h2 => ?_, by simp [Yv.hold, Yv.put, Yv.tick]⟩
        rw [r3] at h2
        injection h2 with h2
        subst h2
        rfl⟩, ⟨hrd, ?_, ?_, ?_, ?_, fun e => (by cases e), fun j e => by
        injection e with e
        subst e
        refine ⟨rfl, r2, ⟨rs ++ [r], ?_, by rw [List.length_append]; simp; omega⟩, ?_, ?_⟩
        · show (Y.runs.set i (rs ++ [r]))[i]? = _
          rw [List.getElem?_set, if_pos rfl, if_pos hi]
        · show 0 ≤ Y.puts + 1; omega
        · show Y.puts + 1 + n ≤ _; omega⟩, hs.tick.of rfl rfl rfl⟩⟩
      · show (n : Int) ≤ Y.held + -1; omega
      · show Y.held + -1 ≤ _; have := hS.h1; omega
      · rw [em]; show Y.held + -1 ≤ _; have := hS.hm; omega
      · show (Y.runs.set i (rs ++ [r])).length ≤ _; rw [List.length_set]; exact hS.rl
  · have hc := hs.hit hh
    obtain ⟨t1, t2⟩ := tick_hit hh
    have fin : ∀ e w', e = .returned (.int .i64 Y.cd) ∧ Yo w w' b y m Y.tick op F → TakeP b y m S op Y n r F w e w' := fun e w' ⟨q1, q2⟩ => ⟨Y.tick, Y.cd, q1, q2, .inr ⟨rfl, hc, mv_tick S Y, t1, t2⟩⟩
    cases S with
    | none => exact (otake_hit u h hS.rd hh hc).mono fin
    | some i => exact (ptake_hit i u h hS.rd hh hc).mono fin
end Go.Proofs.YtcbenpodohjbiaaGreat
set_option linter.unusedSimpArgs false
set_option linter.unusedVariables false
set_option maxRecDepth 100000
namespace Go.Proofs.YtcbenpodohjbiaaGreat
open Go.RowKit Go.Sort

/-- What handOn answers. -/
def HandP (b y m : Nat) (S op : Option Nat) (Y : Yv) (rs : List (List Val)) (F : Nat → Prop) (w : World) (e : Ending) (w' : World) : Prop :=
  ∃ Y' : Yv, ∃ c : Int, e = .returned (.int .i64 c) ∧ Yo w w' b y m Y' op F ∧ ((c = 0 ∧ Mv S rs Y Y' ∧ SnkOk S op Y' 0) ∨ (c = Y.cd ∧ Y.cd ≠ 0 ∧ ∃ k, k ≤ rs.length ∧ Mv S (rs.take k) Y Y' ∧ Y'.rd = true ∧ Y'.calls = Y'.rf))
theorem mv_refl (S : Option Nat) (Y : Yv) : Mv S [] Y Y := by
  have h := mv_tick S Y
  exact ⟨rfl, rfl, by simp, rfl, rfl, fun _ => ⟨by simp, rfl, rfl⟩, fun i e => ⟨rfl, (h.r i e).2.1, by simp⟩⟩
set_option maxHeartbeats 4000000 in
/-- handOn (39). -/
theorem handOn_any {F : Nat → Prop} {b y m : Nat} {Y : Yv} {S op : Option Nat} {w : World} {v : Value} {rs : List (List Val)} (h : Yw w b y m Y op F) (hL : Lst w v rs) (hv : ∀ g, v.ownBlock = some g → ¬ F g) (hn : rs.length ≤ 1048576) (hS : SnkOk S op Y rs.length) (hs : Safe Y rs.length) :
    Calls Tryz.prog 39 #[v, snkV b y S] w fun e w' => HandP b y m S op Y rs F w e w' := by
  obtain ⟨a, c, rfl⟩ := hL.form
  have hT := fun (w1 : World) (j : Nat) (Y1 : Yv) (r : List Val) (u : Value) (F1 : Nat → Prop) (q1 : Yw w1 b y m Y1 op F1) (q2 : Rw w1 u r) (q3 : SnkOk S op Y1 (j + 1)) (q4 : Safe Y1 (j + 1)) => stake q1 q2 q3 q4
  have HL := hide hL
  have HV := hide hv
  have H0 : Hid (Mv S (rs.take 0) Y Y ∧ SnkOk S op Y rs.length ∧ Safe Y rs.length ∧ Yo w w b y m Y op F) := ⟨mv_refl S Y, hS, hs, F, Nw.refl _ _, fun _ q => q, h, Ky.refl _ _⟩
  have HRun : Hid (∀ i, S = some i → ∃ rs, Y.runs[i]? = some rs) := fun i e => by
    obtain ⟨_, _, ⟨rs, q, _⟩, _⟩ := hS.r i e
    exact ⟨rs, q⟩
  clear h hL hv hS hs
  cases S with
  | none =>
    have hm : ∀ w : World, (method 297 65 (.agg #[.pointer (some ⟨y, 0, none⟩), .iface 24 (.pointer (some ⟨b, 0, none⟩))]) "Take").run Tryz.prog w = .ok (160, .agg #[.pointer (some ⟨y, 0, none⟩), .iface 24 (.pointer (some ⟨b, 0, none⟩))]) w := fun _ => by kernel_rfl
    have HT := hide hT
    change ∀ (w1 : World) (j : Nat) (Y1 : Yv) (r : List Val) (u : Value) (F1 : Nat → Prop), Yw w1 b y m Y1 op F1 → Rw w1 u r → SnkOk none op Y1 (j + 1) → Safe Y1 (j + 1) → Calls Tryz.prog 160 #[.agg #[.pointer (some ⟨y, 0, none⟩), .iface 24 (.pointer (some ⟨b, 0, none⟩))], u] w1 fun e w' => TakeP b y m none op Y1 j r F1 w1 e w' at HT
    clear hT
    show Calls Tryz.prog 39 #[.slice a rs.length c, .iface 65 (.agg #[.pointer (some ⟨y, 0, none⟩), .iface 24 (.pointer (some ⟨b, 0, none⟩))])] w _
    go_enter Tryz.func39, Tryz.ntmps39
    go_wp2_with fail
    go_loopw [10, 4] (fun i z wr => ∃ (k j : Nat) (Yk : Yv), k + j = rs.length ∧ i = .int .i64 (k : Int) ∧ z = .int .i64 0 ∧ Hid (Mv none (rs.take k) Y Yk ∧ SnkOk none op Yk j ∧ Safe Yk j ∧ Yo w wr b y m Yk op F)) (fun i _ _ => rs.length - (intOf i).toNat)
    case atStart => exact ⟨0, rs.length, Y, by omega, rfl, rfl, unhide H0⟩
    case round =>
      obtain ⟨k, j, Yk, hkj, rfl, rfl, HI⟩ := hrel
      by_cases hlt : k < rs.length
      · have h9 : (k : Int) < (rs.length : Int) := by omega
        obtain ⟨j', rfl⟩ : ∃ j', j = j' + 1 := ⟨j - 1, by omega⟩
        obtain ⟨r, hx⟩ : ∃ r, rs[k]? = some r := ⟨_, List.getElem?_eq_getElem hlt⟩
        obtain ⟨m1, m2, m3, F1, n1, n2, n3, n4⟩ := unhide HI
        have hL := (unhide HL).ky n4 (unhide HV)
        obtain ⟨g, c', ra, rc, ev, c0, _, hrc, hrl⟩ := hL.get hx
        injection ev with ev1 _ ev3
        subst ev1 ev3
        have HC := hide (unhide HT wr j' Yk r (.slice ra r.length rc) F1 n3 ⟨ra, rc, rfl, hrc, hrl⟩ m2 m3)
        have HX := hide hx
        have HKJ := hide hkj
        have HR := hide (unhide HRun)
        clear hL hx m1 m2 m3 n3 hrc hkj
        go_upto_region 5 with (first | (go_at_call 160; refine (unhide HC).mono ?_; rintro _ w3 ⟨Y3, c3, rfl, hY3, hc3⟩; have HY3 := hide hY3; have HC3 := hide hc3; clear hY3 hc3))
        have hyo : Yo w w3 b y m Y3 op F := by
          obtain ⟨F3, q1, q2, q3, q4⟩ := unhide HY3
          exact ⟨F3, n1.trans q1 n4.size, fun k hk => q2 k (n2 k hk), q3, n4.trans q4 n1⟩
        have HYO := hide hyo
        clear hyo
        rcases unhide HC3 with ⟨rfl, p1, p2, p3⟩ | ⟨rfl, p1, p2, p3, p4⟩
        · have HP := hide (And.intro p1 (And.intro p2 p3))
          clear p1 p2 p3 HC3
          go_wp2
          go_roundw
          case rel => exact ⟨k + 1, j', Y3, by have := unhide HKJ; omega, by go_num, rfl, by rw [List.take_add_one, unhide HX]; exact (unhide HI).1.trans (unhide HP).1 (unhide HR), (unhide HP).2.1, (unhide HP).2.2, unhide HYO⟩
          case measure => simp [intOf]; omega
        · have hcd : (Yk.cd != 0) = true := by simpa using p1
          have HP := hide (And.intro p2 (And.intro p3 p4))
          have HCD := hide p1
          clear p1 p2 p3 p4 HC3
          go_wp2
          go_ret
          have e1 : Yk.cd = Y.cd := (unhide HI).1.cd
          refine ⟨Y3, Yk.cd, rfl, unhide HYO, .inr ⟨e1, by rw [← e1]; exact unhide HCD, k, by omega, ?_, (unhide HP).2.1, (unhide HP).2.2⟩⟩
          have := (unhide HI).1.trans (unhide HP).1 (unhide HR)
          rw [List.append_nil] at this
          exact this
      · have h9 : ¬ (k : Int) < (rs.length : Int) := by omega
        have hke : k = rs.length := by omega
        have hj : j = 0 := by omega
        subst hj
        have HKE := hide hke
        clear hke hkj
        go_wp2
        go_ret
        obtain ⟨m1, m2, m3, m4⟩ := unhide HI
        rw [unhide HKE, List.take_length] at m1
        exact ⟨Yk, 0, rfl, m4, .inl ⟨rfl, m1, m2⟩⟩
  | some i0 =>
    have hm : ∀ w : World, (method 297 114 (.agg #[.pointer (some ⟨y, 0, none⟩), .int .i64 (i0 : Nat)]) "Take").run Tryz.prog w = .ok (162, .agg #[.pointer (some ⟨y, 0, none⟩), .int .i64 (i0 : Nat)]) w := fun _ => by kernel_rfl
    have HT := hide hT
    change ∀ (w1 : World) (j : Nat) (Y1 : Yv) (r : List Val) (u : Value) (F1 : Nat → Prop), Yw w1 b y m Y1 op F1 → Rw w1 u r → SnkOk (some i0) op Y1 (j + 1) → Safe Y1 (j + 1) → Calls Tryz.prog 162 #[.agg #[.pointer (some ⟨y, 0, none⟩), .int .i64 (i0 : Nat)], u] w1 fun e w' => TakeP b y m (some i0) op Y1 j r F1 w1 e w' at HT
    clear hT
    show Calls Tryz.prog 39 #[.slice a rs.length c, .iface 114 (.agg #[.pointer (some ⟨y, 0, none⟩), .int .i64 (i0 : Nat)])] w _
    go_enter Tryz.func39, Tryz.ntmps39
    go_wp2_with fail
    go_loopw [10, 4] (fun i z wr => ∃ (k j : Nat) (Yk : Yv), k + j = rs.length ∧ i = .int .i64 (k : Int) ∧ z = .int .i64 0 ∧ Hid (Mv (some i0) (rs.take k) Y Yk ∧ SnkOk (some i0) op Yk j ∧ Safe Yk j ∧ Yo w wr b y m Yk op F)) (fun i _ _ => rs.length - (intOf i).toNat)
    case atStart => exact ⟨0, rs.length, Y, by omega, rfl, rfl, unhide H0⟩
    case round =>
      obtain ⟨k, j, Yk, hkj, rfl, rfl, HI⟩ := hrel
      by_cases hlt : k < rs.length
      · have h9 : (k : Int) < (rs.length : Int) := by omega
        obtain ⟨j', rfl⟩ : ∃ j', j = j' + 1 := ⟨j - 1, by omega⟩
        obtain ⟨r, hx⟩ : ∃ r, rs[k]? = some r := ⟨_, List.getElem?_eq_getElem hlt⟩
        obtain ⟨m1, m2, m3, F1, n1, n2, n3, n4⟩ := unhide HI
        have hL := (unhide HL).ky n4 (unhide HV)
        obtain ⟨g, c', ra, rc, ev, c0, _, hrc, hrl⟩ := hL.get hx
        injection ev with ev1 _ ev3
        subst ev1 ev3
        have HC := hide (unhide HT wr j' Yk r (.slice ra r.length rc) F1 n3 ⟨ra, rc, rfl, hrc, hrl⟩ m2 m3)
        have HX := hide hx
        have HKJ := hide hkj
        have HR := hide (unhide HRun)
        clear hL hx m1 m2 m3 n3 hrc hkj
        go_upto_region 5 with (first | (go_at_call 162; refine (unhide HC).mono ?_; rintro _ w3 ⟨Y3, c3, rfl, hY3, hc3⟩; have HY3 := hide hY3; have HC3 := hide hc3; clear hY3 hc3))
        have hyo : Yo w w3 b y m Y3 op F := by
          obtain ⟨F3, q1, q2, q3, q4⟩ := unhide HY3
          exact ⟨F3, n1.trans q1 n4.size, fun k hk => q2 k (n2 k hk), q3, n4.trans q4 n1⟩
        have HYO := hide hyo
        clear hyo
        rcases unhide HC3 with ⟨rfl, p1, p2, p3⟩ | ⟨rfl, p1, p2, p3, p4⟩
        · have HP := hide (And.intro p1 (And.intro p2 p3))
          clear p1 p2 p3 HC3
          go_wp2
          go_roundw
          case rel => exact ⟨k + 1, j', Y3, by have := unhide HKJ; omega, by go_num, rfl, by rw [List.take_add_one, unhide HX]; exact (unhide HI).1.trans (unhide HP).1 (unhide HR), (unhide HP).2.1, (unhide HP).2.2, unhide HYO⟩
          case measure => simp [intOf]; omega
        · have hcd : (Yk.cd != 0) = true := by simpa using p1
          have HP := hide (And.intro p2 (And.intro p3 p4))
          have HCD := hide p1
          clear p1 p2 p3 p4 HC3
          go_wp2
          go_ret
          have e1 : Yk.cd = Y.cd := (unhide HI).1.cd
          refine ⟨Y3, Yk.cd, rfl, unhide HYO, .inr ⟨e1, by rw [← e1]; exact unhide HCD, k, by omega, ?_, (unhide HP).2.1, (unhide HP).2.2⟩⟩
          have := (unhide HI).1.trans (unhide HP).1 (unhide HR)
          rw [List.append_nil] at this
          exact this
      · have h9 : ¬ (k : Int) < (rs.length : Int) := by omega
        have hke : k = rs.length := by omega
        have hj : j = 0 := by omega
        subst hj
        have HKE := hide hke
        clear hke hkj
        go_wp2
        go_ret
        obtain ⟨m1, m2, m3, m4⟩ := unhide HI
        rw [unhide HKE, List.take_length] at m1
        exact ⟨Yk, 0, rfl, m4, .inl ⟨rfl, m1, m2⟩⟩
end Go.Proofs.YtcbenpodohjbiaaGreat

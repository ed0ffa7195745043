import Derived.Test.YtgmfbjehdcdioaaOfW
import Derived.Maps.RangeRun
set_option linter.unusedSimpArgs false
set_option linter.unusedVariables false
set_option maxRecDepth 100000
namespace Go.Proofs.Ytgmfbjehdcdioaa
open Go.RowKit Go.Sort

/-! Maps whose elements are numbers. -/
def nv (n : Nat) : Value := .int .i64 (n : Int)
def EntsN (es : List MapEntry) (L : List (Vk × Nat)) : Prop := es.map (fun e => (e.key, e.val)) = L.map fun q => (q.1.v, nv q.2)
structure EsOk (es : Array MapEntry) (clk : Nat) (L : List (Vk × Nat)) : Prop where
  ents : EntsN es.toList L
  old : ∀ x ∈ es.toList, x.born < clk
  once : (es.toList.map (·.born)).Nodup
def MpN (w : World) (mb : Nat) (L : List (Vk × Nat)) : Prop := ∃ es clk, w.heap[mb]? = some (.map es clk) ∧ EsOk es clk L
theorem MpN.lt {w : World} {mb : Nat} {L : List (Vk × Nat)} (h : MpN w mb L) : mb < w.heap.size := by
  obtain ⟨es, clk, hh, _⟩ := h; exact (Array.getElem?_eq_some_iff.1 hh).1
theorem MpN.keep {w w' : World} {mb : Nat} {L : List (Vk × Nat)} (h : MpN w mb L) (hb : w'.heap[mb]? = w.heap[mb]?) : MpN w' mb L := by
  obtain ⟨es, clk, hh, he⟩ := h; exact ⟨es, clk, by rw [hb]; exact hh, he⟩
theorem MpN.later {w w' : World} {mb : Nat} {L : List (Vk × Nat)} (h : MpN w mb L) (hb : Below w.heap.size w w') : MpN w' mb L := h.keep (hb.block _ h.lt)

theorem askingN (x : Vk) (W : World) : ∀ (es : List MapEntry) (L : List (Vk × Nat)) (i : Nat), EntsN es L → (Instr.findAsking 34 x.v es i).run Try.prog W = .ok ((L.findIdx? fun q => decide (x = q.1)).bind fun j => (L[j]?).map fun q => (i + j, nv q.2)) W
  | [], [], i, _ => by simp [Instr.findAsking]
  | [], q :: L, i, h => by simp [EntsN] at h
  | e :: es, [], i, h => by simp [EntsN] at h
  | e :: es, q :: L, i, h => by
    simp only [EntsN, List.map_cons, List.cons.injEq, Prod.mk.injEq] at h
    obtain ⟨⟨h1, h2⟩, h3⟩ := h
    unfold Instr.findAsking
    rw [Sem.run_bind, h1, eqV, Result.andThen_ok]
    by_cases hx : x = q.1
    · have : (decide (x = q.1)) = true := by simpa using hx
      rw [this, if_pos rfl, Sem.run_pure, List.findIdx?_cons, if_pos (by simpa using hx), h2]
      simp
    · have : (decide (x = q.1)) = false := by simpa using hx
      rw [this, if_neg (by simp), askingN x W es L (i + 1) h3, List.findIdx?_cons, if_neg (by simpa using hx)]
      congr 1
      cases hL : L.findIdx? fun q => decide (x = q.1) with
      | none => simp
      | some j => simp; congr 1; funext q; simp; omega
theorem findN (x : Vk) (W : World) (es : List MapEntry) (L : List (Vk × Nat)) (h : EntsN es L) : (Instr.findKey 34 x.v es).run Try.prog W = .ok ((atK L x).map fun q => (q.1, nv q.2)) W := by
  have hu := run_underlying Try.underlying34 W
  unfold Instr.findKey
  rw [Sem.run_bind, hu, Result.andThen_ok]
  cases es with
  | nil =>
    cases L with
    | nil => simp [Instr.findNow, atK]
    | cons q L => simp [EntsN] at h
  | cons e es =>
    have hk : e.key = .agg (match e.key with | .agg a => a | _ => #[]) := by
      cases L with
      | nil => simp [EntsN] at h
      | cons q L =>
        simp only [EntsN, List.map_cons, List.cons.injEq, Prod.mk.injEq] at h
        rw [h.1.1]; rfl
    have hn : Instr.findNow (.struct #[{ name := "Kind", type := 3, offset := 0, embedded := false, tag := "", pkgPath := "", byteOffset := 0 }, { name := "N", type := 2, offset := 1, embedded := false, tag := "", pkgPath := "", byteOffset := 8 }, { name := "S", type := 9, offset := 2, embedded := false, tag := "", pkgPath := "", byteOffset := 16 }]) x.v (e :: es) 0 = none := by
      unfold Instr.findNow; simp [Instr.sameNow]
    rw [hn]
    have := askingN x W (e :: es) L 0 h
    simp only [Nat.zero_add] at this
    rw [this]
    congr 1
    unfold atK
    cases L.findIdx? fun q => decide (x = q.1) with
    | none => rfl
    | some j => simp; cases L[j]? <;> rfl

/-- What a map says of a value. -/
def valN (L : List (Vk × Nat)) (x : Vk) : Nat := match atK L x with | some q => q.2 | none => 0
theorem valN_some {L : List (Vk × Nat)} {x : Vk} {j n : Nat} (h : atK L x = some (j, n)) : valN L x = n := by unfold valN; rw [h]
theorem valN_none {L : List (Vk × Nat)} {x : Vk} (h : atK L x = none) : valN L x = 0 := by unfold valN; rw [h]

/-- A map's type: its keys are values, its elements numbers. -/
structure NumMap (t : TypeId) where
  e : TypeId
  u : Try.prog.underlying t = some (.map 34 e)
  z : ∀ w, (zeroValue e).run Try.prog w = .ok (nv 0) w
def map25 : NumMap 25 := ⟨2, Try.underlying25, fun w => by kernel_rfl⟩
def map71 : NumMap 71 := ⟨3, Try.underlying71, fun w => by kernel_rfl⟩

theorem lookN {t : TypeId} (M : NumMap t) {W : World} {mb : Nat} {L : List (Vk × Nat)} (h : MpN W mb L) (x : Vk) : (Instr.lookup t (.map (some mb)) x.v false).run Try.prog W = .ok (nv (valN L x)) W := by
  obtain ⟨es, clk, hh, he⟩ := h
  unfold Instr.lookup
  cases hx : atK L x with
  | none =>
    rw [valN_none hx]
    simp only [Sem.run_bind, run_underlying M.u, Result.andThen_ok, get_map hh, Sem.run_pure, checkV, findN x W es.toList L he.ents, hx, Option.map_none, M.z]
    simp
  | some jp =>
    obtain ⟨j, p⟩ := jp
    rw [valN_some hx]
    simp only [Sem.run_bind, run_underlying M.u, Result.andThen_ok, get_map hh, Sem.run_pure, checkV, findN x W es.toList L he.ents, hx, Option.map_some]
    simp

theorem EsOk.push {es : Array MapEntry} {clk : Nat} {L : List (Vk × Nat)} (h : EsOk es clk L) (x : Vk) (u : Nat) : EsOk (es.push { key := x.v, val := nv u, born := clk }) (clk + 1) (L ++ [(x, u)]) := by
  refine ⟨?_, fun y hy => ?_, ?_⟩
  · have := h.ents
    unfold EntsN at this ⊢
    rw [Array.toList_push, List.map_append, List.map_append, this]; rfl
  · rw [Array.toList_push] at hy
    rcases List.mem_append.1 hy with hy | hy
    · have := h.old y hy; omega
    · simp at hy; subst hy; simp
  · rw [Array.toList_push, List.map_append, List.nodup_append]
    refine ⟨h.once, by simp, fun a ha b hb e => ?_⟩
    simp at hb
    obtain ⟨y, hy, rfl⟩ := List.mem_map.1 ha
    have := h.old y hy
    omega
theorem putN {t : TypeId} (M : NumMap t) {W : World} {mb : Nat} {L : List (Vk × Nat)} {x : Vk} (u : Nat) (h : MpN W mb L) (hx : atK L x = none) :
    ∃ o, (Instr.mapUpdate t (.map (some mb)) x.v (nv u)).run Try.prog W = .ok () (putO W mb o) ∧ MpN (putO W mb o) mb (L ++ [(x, u)]) := by
  have hlt := h.lt
  obtain ⟨es, clk, hh, he⟩ := h
  refine ⟨.map (es.push { key := x.v, val := nv u, born := clk }) (clk + 1), ?_, _, _, putO_at hlt, he.push x u⟩
  unfold Instr.mapUpdate
  simp only [Sem.run_bind, run_underlying M.u, Result.andThen_ok, get_map hh, Sem.run_pure, checkV, findN x W es.toList L he.ents, hx, Option.map_none]
  rw [set_map _ hh]; rfl

theorem bits_self (x : Vk) : Instr.sameBits 10000 x.v x.v = true := by
  unfold Vk.v
  show Instr.sameBits (9999 + 1) _ _ = true
  unfold Instr.sameBits
  simp [Instr.sameBits]
  have : (x.s == x.s) = true := by rw [ba_eq]; simp
  exact this
/-- The list behind a store. -/
def ensL (L : List (Vk × Nat)) (x : Vk) : List (Vk × Nat) := match atK L x with | some _ => L | none => L ++ [(x, 0)]
def setL (L : List (Vk × Nat)) (x : Vk) (u : Nat) : List (Vk × Nat) := match atK L x with | some q => L.set q.1 (x, u) | none => L ++ [(x, u)]

theorem find_bornN {l : List MapEntry} (hn : (l.map (·.born)).Nodup) {i : Nat} {e : MapEntry} (hi : l[i]? = some e) : l.findIdx? (fun y => (y.born : Int) == (e.born : Int)) = some i := by
  rw [List.findIdx?_eq_some_iff_getElem]
  obtain ⟨hl, he⟩ := List.getElem?_eq_some_iff.1 hi
  refine ⟨hl, by rw [he]; simp, fun j hj => ?_⟩
  have hjl : j < l.length := by omega
  simp only [beq_iff_eq]
  intro hb
  have hb' : l[j].born = e.born := by exact_mod_cast hb
  have h1 : (l.map (·.born))[j]? = some e.born := by rw [List.getElem?_map, List.getElem?_eq_getElem hjl]; simp [hb']
  have h2 : (l.map (·.born))[i]? = some e.born := by rw [List.getElem?_map, hi]; rfl
  have := (List.getElem?_inj (by simpa using hjl) hn).1 (h1.trans h2.symm)
  omega
theorem asInt_run (st : Int) (W : World) : (asInt (goInt st)).run Try.prog W = .ok st W := by first | rfl | simp [asInt, asIntOf, goInt]
theorem arr_find (a : Array MapEntry) (p : MapEntry → Bool) : a.findIdx? p = a.toList.findIdx? p := by cases a; simp

theorem EsOk.set {es : Array MapEntry} {clk : Nat} {L : List (Vk × Nat)} (h : EsOk es clk L) {i : Nat} {x : Vk} {n : Nat} (hx : L[i]? = some (x, n)) (u : Nat) : EsOk (es.modify i fun e => { e with val := nv u }) clk (L.set i (x, u)) := by
  have hlen : es.toList.length = L.length := by
    have := congrArg List.length h.ents
    simpa using this
  have hil : i < L.length := (List.getElem?_eq_some_iff.1 hx).1
  have hie : i < es.toList.length := by omega
  have hat : ∀ j, (es.modify i fun e => { e with val := nv u }).toList[j]? = if i = j then (es.toList[j]?).map (fun e => { e with val := nv u }) else es.toList[j]? := fun j => by
    rw [Array.getElem?_toList, Array.getElem?_modify, Array.getElem?_toList]
  have hbn : (es.modify i fun e => { e with val := nv u }).toList.map (·.born) = es.toList.map (·.born) := by
    apply List.ext_getElem?
    intro j
    rw [List.getElem?_map, List.getElem?_map, hat]
    by_cases e : i = j
    · rw [if_pos e]; cases es.toList[j]? <;> rfl
    · rw [if_neg e]
  refine ⟨?_, fun y hy => ?_, by rw [hbn]; exact h.once⟩
  · have he := h.ents
    unfold EntsN at he ⊢
    apply List.ext_getElem?
    intro j
    have hj := congrArg (fun l => l[j]?) he
    simp only [List.getElem?_map] at hj
    rw [List.getElem?_map, List.getElem?_map, hat]
    by_cases e : i = j
    · subst e
      rw [if_pos rfl, List.getElem?_set_self hil]
      rw [hx] at hj
      cases hq : es.toList[i]? with
      | none => rw [hq] at hj; simp at hj
      | some z => rw [hq] at hj; simp at hj ⊢; exact hj.1
    · rw [if_neg e, List.getElem?_set_ne e]; exact hj
  · have : y.born ∈ (es.modify i fun e => { e with val := nv u }).toList.map (·.born) := List.mem_map.2 ⟨y, hy, rfl⟩
    rw [hbn] at this
    obtain ⟨z, hz, e⟩ := List.mem_map.1 this
    rw [← e]; exact h.old z hz
theorem EsOk.touch {es : Array MapEntry} {clk : Nat} {L : List (Vk × Nat)} (h : EsOk es clk L) {i : Nat} {x : Vk} {n : Nat} (hx : L[i]? = some (x, n)) : EsOk (es.modify i fun e => { e with key := x.v }) clk L ∧ (∃ e, es[i]? = some e ∧ e.key = x.v ∧ (es.modify i fun e => { e with key := x.v }).toList[i]? = some { e with key := x.v }) := by
  have he := h.ents
  have hil : i < L.length := (List.getElem?_eq_some_iff.1 hx).1
  have hi := congrArg (fun l => l[i]?) he
  simp only [List.getElem?_map, hx, Option.map_some] at hi
  cases hq : es.toList[i]? with
  | none => rw [hq] at hi; simp at hi
  | some z =>
    rw [hq] at hi
    simp only [Option.map_some, Option.some.injEq, Prod.mk.injEq] at hi
    have hid : (es.modify i fun e => { e with key := x.v }) = es := by
      apply Array.ext_getElem?
      intro j
      rw [Array.getElem?_modify]
      by_cases e : i = j
      · subst e
        rw [if_pos rfl]
        rw [Array.getElem?_toList] at hq
        rw [hq]
        obtain ⟨a, b, c⟩ := z
        simp only [Option.map_some, Option.some.injEq]
        simp only at hi
        rw [hi.1]
      · rw [if_neg e]
    refine ⟨by rw [hid]; exact h, z, by rw [← Array.getElem?_toList]; exact hq, hi.1, ?_⟩
    rw [hid, hq]
    obtain ⟨a, b, c⟩ := z
    simp only at hi
    simp only [Option.some.injEq]
    rw [hi.1]

/-- m[x] op= u, as the machine does it: the entry first, then the store. -/
theorem entN {t : TypeId} (M : NumMap t) {W : World} {mb : Nat} {L : List (Vk × Nat)} (x : Vk) (h : MpN W mb L) :
    ∃ o st, (Instr.mapEntry t (.map (some mb)) x.v).run Try.prog W = .ok (.tuple #[nv (valN L x), .int .i64 st]) (putO W mb o) ∧ MpN (putO W mb o) mb (ensL L x) ∧
      ∀ (W2 : World) (u : Nat), W2.heap[mb]? = some o → ∃ o2, (Instr.entryStore t (.map (some mb)) (.int .i64 st) (nv u)).run Try.prog W2 = .ok () (putO W2 mb o2) ∧ MpN (putO W2 mb o2) mb (setL L x u) := by
  have hlt := h.lt
  obtain ⟨es, clk, hh, he⟩ := h
  cases hx : atK L x with
  | none =>
    refine ⟨.map (es.push { key := x.v, val := nv 0, born := clk }) (clk + 1), clk, ?_, ?_, fun W2 u h2 => ?_⟩
    · unfold Instr.mapEntry
      simp only [Sem.run_bind, run_underlying M.u, Result.andThen_ok, get_map hh, Sem.run_pure, checkV, findN x W es.toList L he.ents, hx, Option.map_none, M.z]
      rw [set_map _ hh, valN_none hx]; rfl
    · unfold ensL; rw [hx]
      exact ⟨_, _, putO_at hlt, he.push x 0⟩
    · have hl2 : mb < W2.heap.size := (Array.getElem?_eq_some_iff.1 h2).1
      have hp := he.push x 0
      have hfi : (es.push { key := x.v, val := nv 0, born := clk }).findIdx? (fun e => (e.born : Int) == (clk : Int)) = some es.size := by
        rw [arr_find]
        exact find_bornN hp.once (i := es.size) (e := { key := x.v, val := nv 0, born := clk }) (by rw [Array.toList_push, List.getElem?_append_right (by simp)]; simp)
      have hLl : L.length = es.size := by have := congrArg List.length he.ents; simpa using this.symm
      have hat : (L ++ [(x, 0)])[es.size]? = some (x, 0) := by rw [← hLl, List.getElem?_append_right (Nat.le_refl _)]; simp
      refine ⟨.map ((es.push { key := x.v, val := nv 0, born := clk }).modify es.size fun e => { e with val := nv u }) (clk + 1), ?_, _, _, putO_at hl2, ?_⟩
      · unfold Instr.entryStore
        have ha := asInt_run (clk : Int) W2
        unfold goInt at ha
        simp only [Sem.run_bind, Result.andThen_ok, get_map h2, ha, hfi]
        rw [set_map _ h2]; rfl
      · unfold setL; rw [hx]
        have := hp.set hat u
        rw [← hLl] at this ⊢
        rw [List.set_append_right _ _ (Nat.le_refl _)] at this
        simpa using this
  | some jp =>
    obtain ⟨j, n⟩ := jp
    have hL := atK_some hx
    obtain ⟨q1, e, q2, q3, q4⟩ := he.touch hL
    refine ⟨.map (es.modify j fun e => { e with key := x.v }) clk, e.born, ?_, ?_, fun W2 u h2 => ?_⟩
    · unfold Instr.mapEntry
      simp only [Sem.run_bind, run_underlying M.u, Result.andThen_ok, get_map hh, Sem.run_pure, checkV, findN x W es.toList L he.ents, hx, Option.map_some, q2, Option.getD_some, q3]
      unfold Instr.keyThatStays
      rw [bits_self, if_pos rfl]
      simp only [Sem.run_pure, Result.andThen_ok]
      rw [set_map _ hh, valN_some hx]; rfl
    · unfold ensL; rw [hx]
      exact ⟨_, _, putO_at hlt, q1⟩
    · have hl2 : mb < W2.heap.size := (Array.getElem?_eq_some_iff.1 h2).1
      have hfi : (es.modify j fun e => { e with key := x.v }).findIdx? (fun y => (y.born : Int) == (e.born : Int)) = some j := by
        rw [arr_find]
        exact find_bornN (e := { e with key := x.v }) q1.once q4
      refine ⟨.map ((es.modify j fun e => { e with key := x.v }).modify j fun e => { e with val := nv u }) clk, ?_, _, _, putO_at hl2, ?_⟩
      · unfold Instr.entryStore
        have ha := asInt_run (e.born : Int) W2
        unfold goInt at ha
        simp only [Sem.run_bind, Result.andThen_ok, get_map h2, ha, hfi]
        rw [set_map _ h2]; rfl
      · unfold setL; rw [hx]
        exact q1.set hL u
end Go.Proofs.Ytgmfbjehdcdioaa

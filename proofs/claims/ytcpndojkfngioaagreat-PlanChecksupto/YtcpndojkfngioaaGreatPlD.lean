import Derived.Test.YtcpndojkfngioaaGreatPlA
import Derived.Maps.Own
import Derived.Maps.OwnOps
import Derived.Maps.Views
set_option linter.unusedSimpArgs false
set_option linter.unusedVariables false
namespace Go.Proofs.YtcpndojkfngioaaGreat
open Go.RowKit Go.Sort

/-- A type of keys. -/
structure KeyT (κ : Type) (k : TypeId) where
  K : Maps.Keyed Tryz.prog k
  v : κ → Value
  l : κ → Lit
  ok : κ → Prop
  key : ∀ x, ok x → keyOf Tryz.prog k (v x) = some (l x)
  isk : ∀ x, WideAt.IsKeyLit (l x)
  inj : ∀ x y, l x = l y → x = y
theorem wf64 {x : Int} (h : In64 x) : (Lit.int .i64 x).wf = true := by
  simp [Lit.wf, IntKind.min, IntKind.max, IntKind.signed, IntKind.bits]
  exact ⟨h.1, h.2⟩
def keyI : KeyT Int 3 := ⟨Maps.int_keyed Tryz.underlying3, fun x => .int .i64 x, fun x => .int .i64 x, In64, fun x h => Maps.keyOf_int_mk Tryz.underlying3 (wf64 h), fun _ => trivial, fun x y h => by injection h⟩
theorem keyOf_string_mk {P : Program} {k : TypeId} (hk : P.underlying k = some .string) {s : ByteArray} (hs : s.size ≤ maxLen) : keyOf P k (.string s) = some (.string s.data.toList) := by
  have hs' : s.data.size ≤ maxLen := hs
  simp [keyOf, hk, mapKey, Lit.wf, hs', hs]
def keyS : KeyT ByteArray 9 := ⟨Maps.string_keyed Tryz.underlying9, fun x => .string x, fun x => .string x.data.toList, fun x => x.size ≤ 140737488355328, fun x h => keyOf_string_mk Tryz.underlying9 (by unfold maxLen; omega), fun _ => trivial, fun x y h => by injection h with h; exact ByteArray.ext (Array.toList_inj.1 h)⟩
/-- A map that counts. -/
def MpC {κ : Type} {k : TypeId} (T : KeyT κ k) (w : World) (b n : Nat) (f : κ → Int) : Prop := ∃ D : DataW Unit, w.ownsMap Tryz.prog k (plainElem Tryz.prog 3) b n D ∧ Maps.IsMap D ∧ ∀ x, D.atKey (T.l x) (.lit (.int .i64 0)) = .lit (.int .i64 (f x))
theorem zero3 (w : World) : (zeroValue 3).run Tryz.prog w = .ok (.int .i64 0) w := by kernel_rfl
theorem MpC.made {κ : Type} {k : TypeId} (T : KeyT κ k) (w : World) : MpC T (w.alloc (.map #[] 0)) w.heap.size 0 (fun _ => 0) := ⟨.map [], World.ownsMap_made w Tryz.prog k _, ⟨[], rfl⟩, fun x => by rfl⟩
theorem MpC.lt {κ : Type} {k : TypeId} {T : KeyT κ k} {w : World} {b n : Nat} {f : κ → Int} (h : MpC T w b n f) : b < w.heap.size := by obtain ⟨D, h, _⟩ := h; exact h.lt
theorem MpC.later {κ : Type} {k : TypeId} {T : KeyT κ k} {w w' : World} {b n : Nat} {f : κ → Int} (h : MpC T w b n f) (hb : Below w.heap.size w w') : MpC T w' b n f := by
  have hlt := h.lt
  obtain ⟨D, ⟨es, clock, h1, h2⟩, h3⟩ := h
  exact ⟨D, ⟨es, clock, by rw [hb.block b hlt]; exact h1, h2⟩, h3⟩
theorem MpC.look {κ : Type} {k : TypeId} {T : KeyT κ k} {w : World} {b n : Nat} {f : κ → Int} (h : MpC T w b n f) {t : TypeId} (ht : Tryz.prog.underlying t = some (.map k 3)) {x : κ} (hx : T.ok x) : (Instr.lookup t (.map (some b)) (T.v x) false).run Tryz.prog w = .ok (.int .i64 (f x)) w := by
  obtain ⟨D, h1, h2, h3⟩ := h
  obtain ⟨c, hr, ha, _⟩ := h1.lookup_int T.K ht Tryz.underlying3 (zero3 w) (T.key x hx)
  rw [h3 x] at ha
  simp only [DataW.lit.injEq, Lit.int.injEq, true_and] at ha
  rw [hr, ha]
theorem MpC.put {κ : Type} [DecidableEq κ] {k : TypeId} {T : KeyT κ k} {w : World} {b n : Nat} {f : κ → Int} (h : MpC T w b n f) {t : TypeId} (ht : Tryz.prog.underlying t = some (.map k 3)) (hn : n ≤ 140737488355328) {x : κ} (hx : T.ok x) {c : Int} (hc : In64 c) :
    ∃ w', (Instr.mapUpdate t (.map (some b)) (T.v x) (.int .i64 c)).run Tryz.prog w = .ok () w' ∧ MpC T w' b (n + 1) (fun y => if y = x then c else f y) ∧ w.grownBy w' (some b) := by
  obtain ⟨D, h1, h2, h3⟩ := h
  obtain ⟨w', hr, ho, hg⟩ := h1.update T.K ht (by unfold maxLen; omega) (T.key x hx) (plainElem_int Tryz.underlying3 (wf64 hc))
  refine ⟨w', hr, ⟨_, ho, ?_, fun y => ?_⟩, hg⟩
  · obtain ⟨es, rfl⟩ := h2
    exact ⟨_, rfl⟩
  · show _ = DataW.lit (.int .i64 (if y = x then c else f y))
    by_cases e : y = x
    · subst e
      rw [if_pos rfl, Maps.atKey_put_same h2 (T.isk _)]
    · rw [if_neg e, Maps.atKey_put_other (fun q => e (T.inj _ _ q)), h3 y]
/-- m[x] = v. -/
theorem wpList_put_run {ops : Array Oper} {rest : List Oper} {o : Oper} {a : Act} {w : World} {Q : Exit → Act → World → Prop} (hgd : o.guard = none) (m x v : Operand) (t : TypeId) (hop : o.op = Op.mapUpdate t m x v) (vm vx vv : Value) (hm : a.eval m = vm) (hx : a.eval x = vx) (hv : a.eval v = vv) {w' : World}
    (hr : (Instr.mapUpdate t vm vx vv).run Tryz.prog w = .ok () w') (h : wpList Tryz.prog ops Q rest (a.put o.dst undef) w') : wpList Tryz.prog ops Q (o :: rest) a w := by
  refine wpList_plain hgd fun K' hK' => ?_
  unfold Oper.wp
  simp [execOp, hop, hm, hx, hv, hr, Result.andThen]
  exact hK' _ _ h
theorem wpList_look_run {ops : Array Oper} {rest : List Oper} {o : Oper} {a : Act} {w : World} {Q : Exit → Act → World → Prop} (hgd : o.guard = none) (m x : Operand) (t : TypeId) (hop : o.op = Op.lookup t m x false) (vm vx : Value) (hm : a.eval m = vm) (hx : a.eval x = vx) {v' : Value}
    (hr : (Instr.lookup t vm vx false).run Tryz.prog w = .ok v' w) (h : wpList Tryz.prog ops Q rest (a.put o.dst v') w) : wpList Tryz.prog ops Q (o :: rest) a w := by
  refine wpList_plain hgd fun K' hK' => ?_
  unfold Oper.wp
  simp [execOp, hop, hm, hx, hr, Result.andThen]
  exact hK' _ _ h
theorem grown_belowP {w w' : World} {row : Option Nat} (hg : w.grownBy w' row) {B : Nat} (hB : B ≤ w.heap.size) (hr : ∀ g, row = some g → B ≤ g) : Below B w w' :=
  ⟨hg.os, hg.tape, hg.output, hg.size, fun k hk => hg.block k (by omega) (fun e => by have := hr k e.symm; omega)⟩
/-- Numbers in memory. -/
theorem IntsAt.getP {w : World} {a : Option Addr} {l : List Int} {i : Nat} {x : Int} (h : IntsAt w a l) (hx : l[i]? = some x) : ∃ b off, a = some ⟨b, off, none⟩ ∧ w.cell? ⟨b, off + i, none⟩ = some (.int .i64 x) := by
  rcases h with h | ⟨b, off, ha, h⟩
  · rw [h] at hx; simp at hx
  · exact ⟨b, off, ha, h i x hx⟩
/-- Texts in memory. -/
def StrsAt (w : World) (a : Option Addr) (l : List ByteArray) : Prop := l = [] ∨ ∃ b off, a = some ⟨b, off, none⟩ ∧ ∀ i x, l[i]? = some x → w.cell? ⟨b, off + i, none⟩ = some (.string x)
theorem StrsAt.later {w w' : World} {a : Option Addr} {l : List ByteArray} (h : StrsAt w a l) (hb : Below w.heap.size w w') : StrsAt w' a l := by
  rcases h with h | ⟨b, off, ha, h⟩
  · exact .inl h
  · exact .inr ⟨b, off, ha, fun i x hx => clater (h i x hx) hb⟩
theorem StrsAt.get {w : World} {a : Option Addr} {l : List ByteArray} {i : Nat} {x : ByteArray} (h : StrsAt w a l) (hx : l[i]? = some x) : ∃ b off, a = some ⟨b, off, none⟩ ∧ w.cell? ⟨b, off + i, none⟩ = some (.string x) := by
  rcases h with h | ⟨b, off, ha, h⟩
  · rw [h] at hx; simp at hx
  · exact ⟨b, off, ha, h i x hx⟩
/-- How often x stands among the first k. -/
def cntF {κ : Type} [DecidableEq κ] (xs : List κ) (k : Nat) (x : κ) : Int := ((xs.take k).count x : Int)
theorem cntF_step {κ : Type} [DecidableEq κ] {xs : List κ} {k : Nat} {x : κ} (h : xs[k]? = some x) : (fun y => if y = x then cntF xs k x + 1 else cntF xs k y) = cntF xs (k + 1) := by
  funext y
  obtain ⟨h1, rfl⟩ := List.getElem?_eq_some_iff.1 h
  unfold cntF
  rw [List.take_succ_eq_append_getElem h1, List.count_append]
  by_cases e : y = xs[k]
  · subst e; rw [if_pos rfl]; simp
  · rw [if_neg e]
    have : List.count y [xs[k]] = 0 := by rw [List.count_eq_zero]; simpa using e
    rw [this]; simp
theorem nodup_step {κ : Type} [DecidableEq κ] {xs : List κ} {k : Nat} {x : κ} (h : xs[k]? = some x) (hn : (xs.take k).Nodup) : (cntF xs k x = 0 → (xs.take (k + 1)).Nodup) ∧ (¬ cntF xs k x = 0 → ¬ xs.Nodup) := by
  obtain ⟨h1, rfl⟩ := List.getElem?_eq_some_iff.1 h
  unfold cntF
  refine ⟨fun h0 => ?_, fun h0 hx => ?_⟩
  · rw [List.take_succ_eq_append_getElem h1, List.nodup_append]
    have : xs[k] ∉ xs.take k := by rw [← List.count_eq_zero]; omega
    refine ⟨hn, by simp, fun a ha b hb e => ?_⟩
    simp at hb
    subst hb; subst e
    exact this ha
  · have hm : xs[k] ∈ xs.take k := by
      rw [← List.count_pos_iff]
      omega
    have h2 : (xs.take (k + 1)).Nodup := hx.sublist (List.take_sublist _ _)
    rw [List.take_succ_eq_append_getElem h1, List.nodup_append] at h2
    exact h2.2.2 _ hm _ (by simp) rfl
theorem cntF_le {κ : Type} [DecidableEq κ] (xs : List κ) (k : Nat) (x : κ) : 0 ≤ cntF xs k x ∧ cntF xs k x ≤ k := by
  unfold cntF
  have := List.count_le_length (l := xs.take k) (a := x)
  rw [List.length_take] at this
  omega
/-- make(map[K]V, n). -/
theorem make_hint {t k e : TypeId} (h : Tryz.prog.underlying t = some (.map k e)) (n : Int) (W : World) : (Instr.makeMap t (some (.int .i64 n))).run Tryz.prog W = .ok (.map (some W.heap.size)) (W.alloc (.map #[] 0)) := by
  simp [Instr.makeMap, run_underlying h, asInt, asIntOf, Result.andThen]
set_option maxHeartbeats 2000000 in
set_option maxRecDepth 100000 in
/-- areUnlike of numbers (124). -/
theorem unlikeI_any (xs : List Int) (a : Option Addr) (c : Nat) (w : World) (hl : xs.length ≤ 140737488355328) (hx : ∀ x ∈ xs, In64 x) (ha : IntsAt w a xs) :
    Calls Tryz.prog 124 #[.slice a xs.length c] w fun r w' => r = .returned (.bool (decide xs.Nodup)) ∧ Below w.heap.size w w' := by
  have HX := hide hx
  have HA := hide ha
  obtain ⟨R, hR⟩ : ∃ R, R = decide xs.Nodup := ⟨_, rfl⟩
  rw [← hR]
  have HR := hide hR
  have HM0 := hide (MpC.made keyI w)
  have HB0 := hide (below_alloc (Below.refl _ w) (.map #[] 0))
  clear hx ha hR
  have hmm := make_hint (t := 139) Tryz.underlying139
  go_enter Tryz.func124, Tryz.ntmps124
  go_wp2_with fail
  go_loopw [11] (fun i wr => ∃ (k : Nat), k ≤ xs.length ∧ i = .int .i64 (k : Int) ∧ Hid (MpC keyI wr w.heap.size k (cntF xs k)) ∧ Hid ((xs.take k).Nodup) ∧ Hid (Below w.heap.size w wr)) (fun i _ => xs.length - (intOf i).toNat)
  case atStart => exact ⟨0, Nat.zero_le _, rfl, by have := unhide HM0; have e : (fun _ => (0 : Int)) = cntF xs 0 := (by funext y; simp [cntF]); rw [e] at this; exact this, by show (xs.take 0).Nodup; simp, unhide HB0⟩
  case round =>
    clear HM0 HB0 hmm
    obtain ⟨k, hk, rfl, HM, HN, HB⟩ := hrel
    by_cases hlt : k < xs.length
    · have h9 : (k : Int) < (xs.length : Int) := by omega
      obtain ⟨x, hx⟩ : ∃ x, xs[k]? = some x := ⟨_, List.getElem?_eq_getElem hlt⟩
      have hok := unhide HX x (List.mem_of_getElem? hx)
      obtain ⟨b, off, rfl, c0⟩ := ((unhide HA).later (unhide HB)).getP hx
      have hle := cntF_le xs k x
      have hl1 := (unhide HM).look (t := 139) Tryz.underlying139 (x := x) hok
      obtain ⟨w2, hp, hm2, hg⟩ := (unhide HM).put (t := 139) Tryz.underlying139 (by omega) (x := x) hok (c := cntF xs k x + 1) ⟨by omega, by omega⟩
      have hl2 := hm2.look (t := 139) Tryz.underlying139 (x := x) hok
      rw [if_pos rfl] at hl2
      rw [cntF_step hx] at hm2
      have hns := nodup_step hx (unhide HN)
      have hb2 := (unhide HB).trans (grown_belowP hg (unhide HB).size (fun g e => by cases e; exact Nat.le_refl _))
      have HL1 := hide hl1
      have HP := hide hp
      have HL2 := hide hl2
      have HM2 := hide hm2
      have HB2 := hide hb2
      have HNS := hide hns
      generalize cntF xs k x = cc at *
      clear hx hl1 hp hl2 hm2 hb2 hg hns HM HN HB
      change Hid ((Instr.lookup 139 (.map (some w.heap.size)) (.int .i64 x) false).run Tryz.prog wr = .ok (.int .i64 cc) wr) at HL1
      change Hid ((Instr.lookup 139 (.map (some w.heap.size)) (.int .i64 x) false).run Tryz.prog w2 = .ok (.int .i64 (cc + 1)) w2) at HL2
      change Hid ((Instr.mapUpdate 139 (.map (some w.heap.size)) (.int .i64 x) (.int .i64 (cc + 1))).run Tryz.prog wr = .ok () w2) at HP
      by_cases h0 : cc = 0
      · subst h0
        go_wp2_with (first
          | (at_lookup; refine wpList_look_run rfl (.tmp 15) (.tmp 16) 139 rfl _ _ rfl rfl (unhide HL1) ?_)
          | (at_mapUpdate; refine wpList_put_run rfl (.tmp 15) (.tmp 16) (.tmp 18) 139 rfl _ _ _ rfl rfl rfl (unhide HP) ?_)
          | (at_lookup; refine wpList_look_run rfl (.tmp 19) (.tmp 20) 139 rfl _ _ rfl rfl (unhide HL2) ?_))
        exact ⟨⟨k + 1, by omega, by go_num, unhide HM2, (unhide HNS).1 rfl, unhide HB2⟩, by simp [intOf]; omega⟩
      · have hgt : (1 : Int) < cc + 1 := by omega
        have HZ : Hid (R = false) := by rw [unhide HR]; show _ = _; simpa using (unhide HNS).2 h0
        clear h0
        go_wp2_with (first
          | (at_lookup; refine wpList_look_run rfl (.tmp 15) (.tmp 16) 139 rfl _ _ rfl rfl (unhide HL1) ?_)
          | (at_mapUpdate; refine wpList_put_run rfl (.tmp 15) (.tmp 16) (.tmp 18) 139 rfl _ _ _ rfl rfl rfl (unhide HP) ?_)
          | (at_lookup; refine wpList_look_run rfl (.tmp 19) (.tmp 20) 139 rfl _ _ rfl rfl (unhide HL2) ?_))
        go_ret
        exact ⟨by rw [unhide HZ]; rfl, unhide HB2⟩
    · have h9 : ¬ (k : Int) < (xs.length : Int) := by omega
      have HZ : Hid (R = true) := by
        have h1 := unhide HN
        rw [List.take_of_length_le (by omega)] at h1
        rw [unhide HR]; show _ = _; simpa using h1
      clear HM HN
      go_wp2
      go_ret
      exact ⟨by rw [unhide HZ]; rfl, unhide HB⟩
set_option maxHeartbeats 2000000 in
set_option maxRecDepth 100000 in
/-- areUnlike of texts (60). -/
theorem unlikeS_any (xs : List ByteArray) (a : Option Addr) (c : Nat) (w : World) (hl : xs.length ≤ 140737488355328) (hx : ∀ x ∈ xs, x.size ≤ 140737488355328) (ha : StrsAt w a xs) :
    Calls Tryz.prog 60 #[.slice a xs.length c] w fun r w' => r = .returned (.bool (decide xs.Nodup)) ∧ Below w.heap.size w w' := by
  have HX := hide hx
  have HA := hide ha
  obtain ⟨R, hR⟩ : ∃ R, R = decide xs.Nodup := ⟨_, rfl⟩
  rw [← hR]
  have HR := hide hR
  have HM0 := hide (MpC.made keyS w)
  have HB0 := hide (below_alloc (Below.refl _ w) (.map #[] 0))
  clear hx ha hR
  have hmm := make_hint (t := 59) Tryz.underlying59
  go_enter Tryz.func60, Tryz.ntmps60
  go_wp2_with fail
  go_loopw [11] (fun i wr => ∃ (k : Nat), k ≤ xs.length ∧ i = .int .i64 (k : Int) ∧ Hid (MpC keyS wr w.heap.size k (cntF xs k)) ∧ Hid ((xs.take k).Nodup) ∧ Hid (Below w.heap.size w wr)) (fun i _ => xs.length - (intOf i).toNat)
  case atStart => exact ⟨0, Nat.zero_le _, rfl, by have := unhide HM0; have e : (fun _ => (0 : Int)) = cntF xs 0 := (by funext y; simp [cntF]); rw [e] at this; exact this, by show (xs.take 0).Nodup; simp, unhide HB0⟩
  case round =>
    clear HM0 HB0 hmm
    obtain ⟨k, hk, rfl, HM, HN, HB⟩ := hrel
    by_cases hlt : k < xs.length
    · have h9 : (k : Int) < (xs.length : Int) := by omega
      obtain ⟨x, hx⟩ : ∃ x, xs[k]? = some x := ⟨_, List.getElem?_eq_getElem hlt⟩
      have hok := unhide HX x (List.mem_of_getElem? hx)
      obtain ⟨b, off, rfl, c0⟩ := ((unhide HA).later (unhide HB)).get hx
      have hle := cntF_le xs k x
      have hl1 := (unhide HM).look (t := 59) Tryz.underlying59 (x := x) hok
      obtain ⟨w2, hp, hm2, hg⟩ := (unhide HM).put (t := 59) Tryz.underlying59 (by omega) (x := x) hok (c := cntF xs k x + 1) ⟨by omega, by omega⟩
      have hl2 := hm2.look (t := 59) Tryz.underlying59 (x := x) hok
      rw [if_pos rfl] at hl2
      rw [cntF_step hx] at hm2
      have hns := nodup_step hx (unhide HN)
      have hb2 := (unhide HB).trans (grown_belowP hg (unhide HB).size (fun g e => by cases e; exact Nat.le_refl _))
      have HL1 := hide hl1
      have HP := hide hp
      have HL2 := hide hl2
      have HM2 := hide hm2
      have HB2 := hide hb2
      have HNS := hide hns
      generalize cntF xs k x = cc at *
      clear hx hl1 hp hl2 hm2 hb2 hg hns HM HN HB
      change Hid ((Instr.lookup 59 (.map (some w.heap.size)) (.string x) false).run Tryz.prog wr = .ok (.int .i64 cc) wr) at HL1
      change Hid ((Instr.lookup 59 (.map (some w.heap.size)) (.string x) false).run Tryz.prog w2 = .ok (.int .i64 (cc + 1)) w2) at HL2
      change Hid ((Instr.mapUpdate 59 (.map (some w.heap.size)) (.string x) (.int .i64 (cc + 1))).run Tryz.prog wr = .ok () w2) at HP
      by_cases h0 : cc = 0
      · subst h0
        go_wp2_with (first
          | (at_lookup; refine wpList_look_run rfl (.tmp 15) (.tmp 16) 59 rfl _ _ rfl rfl (unhide HL1) ?_)
          | (at_mapUpdate; refine wpList_put_run rfl (.tmp 15) (.tmp 16) (.tmp 18) 59 rfl _ _ _ rfl rfl rfl (unhide HP) ?_)
          | (at_lookup; refine wpList_look_run rfl (.tmp 19) (.tmp 20) 59 rfl _ _ rfl rfl (unhide HL2) ?_))
        exact ⟨⟨k + 1, by omega, by go_num, unhide HM2, (unhide HNS).1 rfl, unhide HB2⟩, by simp [intOf]; omega⟩
      · have hgt : (1 : Int) < cc + 1 := by omega
        have HZ : Hid (R = false) := by rw [unhide HR]; show _ = _; simpa using (unhide HNS).2 h0
        clear h0
        go_wp2_with (first
          | (at_lookup; refine wpList_look_run rfl (.tmp 15) (.tmp 16) 59 rfl _ _ rfl rfl (unhide HL1) ?_)
          | (at_mapUpdate; refine wpList_put_run rfl (.tmp 15) (.tmp 16) (.tmp 18) 59 rfl _ _ _ rfl rfl rfl (unhide HP) ?_)
          | (at_lookup; refine wpList_look_run rfl (.tmp 19) (.tmp 20) 59 rfl _ _ rfl rfl (unhide HL2) ?_))
        go_ret
        exact ⟨by rw [unhide HZ]; rfl, unhide HB2⟩
    · have h9 : ¬ (k : Int) < (xs.length : Int) := by omega
      have HZ : Hid (R = true) := by
        have h1 := unhide HN
        rw [List.take_of_length_le (by omega)] at h1
        rw [unhide HR]; show _ = _; simpa using h1
      clear HM HN
      go_wp2
      go_ret
      exact ⟨by rw [unhide HZ]; rfl, unhide HB⟩
end Go.Proofs.YtcpndojkfngioaaGreat

import Derived.Test.YtmjeiepljlepbacGreatCellQ
import Derived.OrdersHeld
import Derived.Deep.RegionHeld3
import Derived.Test.YtmjeiepljlepbacGreatLongA
import Derived.Test.YtmjeiepljlepbacGreatCellF
set_option linter.unusedSimpArgs false
set_option linter.unusedVariables false
namespace Go.Proofs.YtmjeiepljlepbacGreat
open Go.RowKit Go.Sort

/-! Loads taken first in a region that overwrites, at its end, what they read: the condition is asked only as long as operation k has not come up. -/
section
variable {P : Program} {ops : Array Oper} {Q : Exit → Act → World → Prop} {md : Region.Mode} {S : World → Prop} {k : Nat}

def anyG (P : Program) (md : Region.Mode) (ops : Array Oper) (Q : Exit → Act → World → Prop) (S : World → Prop) (k : Nat) : Nat → Array Bool → Act → World → Prop
  | 0, L, a, w => Region.ready md ops L = [] ∧ Q .normal a w
  | f + 1, L, a, w => (Region.ready md ops L = [] → Q .normal a w) ∧ ∀ i ∈ Region.ready md ops L, wpOp P ops Q i (fun a' w' => ((L.setIfInBounds i true).getD k true = false → S w') ∧ anyG P md ops Q S k f (L.setIfInBounds i true) a' w') a w

theorem any_of_G : ∀ (f : Nat) (L : Array Bool) (a : Act) (w : World), anyG P md ops Q S k f L a w → wpAny P md ops Q f L a w
  | 0, _, _, _, h => h
  | f + 1, _, _, _, h => ⟨h.1, fun i hi => wpOp_mono (fun a' w' h' => any_of_G f _ a' w' h'.2) (h.2 i hi)⟩

/-- None of K can come up ahead of i. -/
def waits (md : Region.Mode) (ops : Array Oper) (i : Nat) (K : List Nat) : Bool :=
  K.all fun c => match ops[c]? with
    | some o => o.after.any fun e => Region.binds md e && (e.on == i || K.contains e.on)
    | none => true

theorem not_ready {i j : Nat} {K : List Nat} {L : Array Bool} (hw : waits md ops i K = true) (hL : ∀ c ∈ K, L.getD c true = false) (hi : i ∈ Region.ready md ops L) (hj : j ∈ Region.ready md ops L) : j ∉ K := by
  intro hjK
  have un : ∀ c, L.getD c true = false → L.getD c false = true → False := by
    intro c h0 h1
    rcases Nat.lt_or_ge c L.size with h' | h'
    · simp [h'] at h0 h1; rw [h0] at h1; cases h1
    · simp [Array.getElem?_eq_none h'] at h1
  obtain ⟨_, o, ho, hall⟩ := mem_ready.1 hj
  have h1 := List.all_eq_true.1 hw j hjK
  simp only [ho] at h1
  obtain ⟨e, he, hb⟩ : ∃ e, e ∈ o.after ∧ (Region.binds md e && (e.on == i || K.contains e.on)) = true := by
    obtain ⟨n, hn, hb⟩ := Array.any_eq_true.1 h1
    exact ⟨_, Array.getElem_mem hn, hb⟩
  simp only [Bool.and_eq_true, Bool.or_eq_true, beq_iff_eq, List.contains_iff_mem] at hb
  have h2 := hall e he hb.1
  rcases hb.2 with h3 | h3
  · rw [h3] at h2
    exact un _ (mem_ready.1 hi).1 h2
  · exact un _ (hL _ h3) h2

theorem anyG_first {i : Nat} {oi : Oper} {v : Value} {K : List Nat} (hi : ops[i]? = some oi) (hsel : ∀ (j : Nat) (o : Oper) cs b, ops[j]? = some o → o.op ≠ .select cs b)
    (hQ : ∀ c a w, Q (.panic c) (a.put oi.dst v) w → Q (.panic c) a w) (hk : k ∈ K) (hiK : i ∉ K) (hw : waits md ops i K = true) :
    ∀ (f : Nat) (L : Array Bool) (a : Act) (w : World),
      (∀ j oj, ops[j]? = some oj → j ≠ i → L.getD j true = false → (∀ e ∈ oj.after, Region.binds md e = true → e.on ≠ i) → oi.apart ops oj = true) →
      (∀ c ∈ K, L.getD c true = false) → i ∈ Region.ready md ops L → YieldsIf P ops S oi v a → S w →
      anyG P md ops Q S k f (L.setIfInBounds i true) (a.put oi.dst v) w → anyG P md ops Q S k (f + 1) L a w := by
  intro f
  induction f with
  | zero =>
    intro L a w _ _ hr hy hS H
    refine ⟨fun h => (by rw [h] at hr; cases hr), fun j hj => ?_⟩
    by_cases hji : j = i
    · subst hji; exact hy.wpOp hi hS ⟨fun _ => hS, H⟩
    · have := ready_mono hj hji
      rw [H.1] at this
      cases this
  | succ f ih =>
    intro L a w hfree hL hr hy hS H
    refine ⟨fun h => (by rw [h] at hr; cases hr), fun j hj => ?_⟩
    by_cases hji : j = i
    · subst hji; exact hy.wpOp hi hS ⟨fun _ => hS, H⟩
    · have hjK := not_ready hw hL hr hj
      have h1 := H.2 j (ready_mono hj hji)
      obtain ⟨hjun, oj, hoj, hall⟩ := mem_ready.1 hj
      have hnot : ∀ e ∈ oj.after, Region.binds md e = true → e.on ≠ i := fun e he hb heq => by
        have h1 := hall e he hb
        have h0 := (mem_ready.1 hr).1
        rw [heq] at h1
        rcases Nat.lt_or_ge i L.size with h' | h'
        · simp [h'] at h0 h1; rw [h0] at h1; cases h1
        · simp [Array.getElem?_eq_none h'] at h1
      have h2 := wpOp_putIf hoj (hfree j oj hoj hji hjun hnot) (fun cs b => hsel i oi cs b hi) (fun cs b => hsel j oj cs b hoj) hQ hy h1
      have hfree' : ∀ c oc, ops[c]? = some oc → c ≠ i → (L.setIfInBounds j true).getD c true = false →
          (∀ e ∈ oc.after, Region.binds md e = true → e.on ≠ i) → oi.apart ops oc = true := fun c oc hc hci hun hno => by
        refine hfree c oc hc hci ?_ hno
        by_cases hjc : j = c
        · subst hjc; exact hjun
        · rw [getD_set_ne true hjc] at hun; exact hun
      have hL' : ∀ c ∈ K, (L.setIfInBounds j true).getD c true = false := fun c hc => by
        have hne : j ≠ c := fun h => hjK (by rw [h]; exact hc)
        rw [getD_set_ne true hne]
        exact hL c hc
      refine wpOp_mono (fun a' w' h3 => ?_) h2
      have hjk : j ≠ k := fun h => hjK (by rw [h]; exact hk)
      have hik : i ≠ k := fun h => hiK (by rw [h]; exact hk)
      have hS' : S w' := h3.2.1 (by rw [getD_set_ne true hjk, getD_set_ne true hik]; exact hL k hk)
      refine ⟨fun _ => hS', ih (L.setIfInBounds j true) a' w' hfree' hL' (ready_mono hr (Ne.symm hji)) h3.1 hS' ?_⟩
      rw [Array.setIfInBounds_comm _ _ hji]
      exact h3.2.2

/-- Take i first. -/
theorem anyG_take {i : Nat} {oi : Oper} {v : Value} {f : Nat} {L : Array Bool} {a : Act} {w : World} (K : List Nat) (hi : ops[i]? = some oi)
    (hs : Region.noSelect ops = true) (hf : Region.free md ops L i = true) (hr : (Region.ready md ops L).contains i = true)
    (hK : (K.contains k && !K.contains i && waits md ops i K && K.all fun c => !L.getD c true) = true)
    (hQ : ∀ c a w, Q (.panic c) (a.put oi.dst v) w → Q (.panic c) a w) (hy : YieldsIf P ops S oi v a) (hS : S w)
    (h : anyG P md ops Q S k f (L.setIfInBounds i true) (a.put oi.dst v) w) : anyG P md ops Q S k (f + 1) L a w := by
  simp only [Bool.and_eq_true, List.contains_iff_mem, Bool.not_eq_true', List.all_eq_true] at hK
  refine anyG_first (K := K) hi (Region.noSelect_spec hs) hQ hK.1.1.1 (fun hm => ?_) hK.1.2 f L a w (Region.free_spec hi hf) hK.2 (by simpa using hr) hy hS h
  have := hK.1.1.2
  rw [List.contains_iff_mem.2 hm] at this
  cases this

/-- One alone can come up. -/
theorem anyG_one {i : Nat} {f : Nat} {L : Array Bool} {a : Act} {w : World} (hr : Region.ready md ops L = [i])
    (h : wpOp P ops Q i (fun a' w' => ((L.setIfInBounds i true).getD k true = false → S w') ∧ anyG P md ops Q S k f (L.setIfInBounds i true) a' w') a w) : anyG P md ops Q S k (f + 1) L a w :=
  ⟨fun h0 => (by rw [hr] at h0; cases h0), fun j hj => by rw [hr, List.mem_singleton] at hj; subst hj; exact h⟩

/-- An operation that is wanted; what follows is a letter. -/
theorem wpOp_at {i : Nat} {o : Oper} {a : Act} {w : World} {K : Act → World → Prop} (hi : ops[i]? = some o) (hw : Region.wanted o (yielded ops a.tmps) = true)
    (h : ∀ K' : Act → World → Prop, Hid (∀ a w, K a w → K' a w) → o.wp P a w K' Q) : wpOp P ops Q i K a w := by
  unfold wpOp
  simp only [hi, hw, if_true]
  exact .inl (h K (hide fun _ _ h => h))

theorem anyG_done {L : Array Bool} {a : Act} {w : World} (hr : Region.ready md ops L = []) (h : Q .normal a w) : ∀ f, anyG P md ops Q S k f L a w
  | 0 => ⟨hr, h⟩
  | _ + 1 => ⟨fun _ => h, by rw [hr]; simp⟩

theorem wp_region_G {id : Nat} {a : Act} {w : World} (hm : P.follows .mixedOrders = true)
    (h : anyG P .any ops Q S k ops.size (Array.replicate ops.size false) a { w with drawn := w.drawn + 1 }) : (Code.region id ops true).wp P Q a w :=
  wp_region_any hm (any_of_G _ _ _ _ h)
theorem anyG_many {f : Nat} {L : Array Bool} {a : Act} {w : World} (l : List Nat) (hr : Region.ready md ops L = l) (hl : l ≠ [])
    (h : ∀ i ∈ l, wpOp P ops Q i (fun a' w' => ((L.setIfInBounds i true).getD k true = false → S w') ∧ anyG P md ops Q S k f (L.setIfInBounds i true) a' w') a w) : anyG P md ops Q S k (f + 1) L a w :=
  ⟨fun h0 => absurd (hr.symm.trans h0) hl, fun j hj => h j (by rw [← hr]; exact hj)⟩
theorem drop_at {α : Type} {l : Array α} {i : Nat} {o : α} {r : List α} (h : l.toList.drop i = o :: r) : l[i]? = some o := by
  have h1 : (l.toList.drop i)[0]? = some o := by rw [h]; rfl
  rw [List.getElem?_drop] at h1
  simpa using h1
theorem wpOp_lit {i : Nat} {o : Oper} {r : List Oper} {a : Act} {w : World} {K : Act → World → Prop} (hi : ops.toList.drop i = o :: r) (hw : Region.wanted o (yielded ops a.tmps) = true)
    (h : ∀ K' : Act → World → Prop, Hid (∀ a w, K a w → K' a w) → o.wp P a w K' Q) : wpOp P ops Q i K a w := wpOp_at (drop_at hi) hw h
theorem anyG_takel {i : Nat} {oi : Oper} {r : List Oper} {v : Value} {f : Nat} {L : Array Bool} {a : Act} {w : World} (K : List Nat) (hi : ops.toList.drop i = oi :: r)
    (hs : Region.noSelect ops = true) (hf : Region.free md ops L i = true) (hr : (Region.ready md ops L).contains i = true)
    (hK : (K.contains k && !K.contains i && waits md ops i K && K.all fun c => !L.getD c true) = true)
    (hQ : ∀ c a w, Q (.panic c) (a.put oi.dst v) w → Q (.panic c) a w) (hy : YieldsIf P ops S oi v a) (hS : S w)
    (h : anyG P md ops Q S k f (L.setIfInBounds i true) (a.put oi.dst v) w) : anyG P md ops Q S k (f + 1) L a w := anyG_take K (drop_at hi) hs hf hr hK hQ hy hS h
end
end Go.Proofs.YtmjeiepljlepbacGreat
set_option linter.unusedSimpArgs false
set_option linter.unusedVariables false
set_option maxRecDepth 100000
namespace Go.Proofs.YtmjeiepljlepbacGreat
open Go.RowKit Go.Sort

/-- Digits to the base 65536. -/
def Digs (ds : List Int) : Prop := ∀ x ∈ ds, 0 ≤ x ∧ x < 65536
/-- The number that digits spell, the lowest first. -/
def valD : List Int → Int
  | [] => 0
  | d :: ds => d + 65536 * valD ds
theorem valD_nonneg : ∀ {ds : List Int}, Digs ds → 0 ≤ valD ds
  | [], _ => Int.le_refl _
  | d :: ds, h => by
    have h1 := h d (by simp)
    have h2 := valD_nonneg (ds := ds) (fun x hx => h x (by simp [hx]))
    rw [valD]; omega
theorem valD_lt : ∀ {ds : List Int}, Digs ds → valD ds < 65536 ^ ds.length
  | [], _ => by simp [valD]
  | d :: ds, h => by
    have h1 := h d (by simp)
    have h2 := valD_lt (ds := ds) (fun x hx => h x (by simp [hx]))
    rw [valD, List.length_cons, Int.pow_succ]
    omega
theorem valD_drop {ds : List Int} {k : Nat} {x : Int} (h : ds[k]? = some x) : valD (ds.drop k) = x + 65536 * valD (ds.drop (k + 1)) := by
  obtain ⟨h1, rfl⟩ := List.getElem?_eq_some_iff.1 h
  rw [List.drop_eq_getElem_cons h1, valD]
theorem Digs.drop {ds : List Int} (h : Digs ds) (k : Nat) : Digs (ds.drop k) := fun x hx => h x (List.mem_of_mem_drop hx)
theorem Digs.at {ds : List Int} (h : Digs ds) {k : Nat} {x : Int} (hx : ds[k]? = some x) : 0 ≤ x ∧ x < 65536 := h x (List.mem_of_getElem? hx)

theorem or_dig (U c : Int) (h0 : 0 ≤ U) (h1 : U < 281474976710656) (c0 : 0 ≤ c) (c1 : c < 65536) : bits BinOp.or IntKind.u64 (IntKind.u64.wrap (U * 65536)) (IntKind.u64.wrap c) = U * 65536 + c := by
  obtain ⟨a, rfl⟩ := Int.eq_ofNat_of_zero_le h0
  obtain ⟨b, rfl⟩ := Int.eq_ofNat_of_zero_le c0
  rw [IntKind.wrap_u64, IntKind.wrap_u64, Int.emod_eq_of_lt (by omega) (by omega), Int.emod_eq_of_lt (by omega) (by omega)]
  have h := bits_or_u64_nat (2 ^ 16 * a) b (by omega) (by omega)
  rw [← Nat.two_pow_add_eq_or_of_lt (by omega) a] at h
  rw [show (a : Int) * 65536 = ((2 ^ 16 * a : Nat) : Int) by omega, h]
  omega

def valueV (m : Bool) (ds : List Int) : Val :=
  if 4 < ds.length then .null
  else if m then (if valD ds ≤ 9223372036854775808 then .num (-valD ds) else .null)
  else (if valD ds < 9223372036854775808 then .num (valD ds) else .null)

set_option maxHeartbeats 1000000 in
theorem value_any (a : Option Addr) (cap : Nat) (ds : List Int) (m : Bool) (w : World) (hl : ds.length ≤ 1000000000) (hd : Digs ds) (ha : DigAt w a ds) :
    Calls Tryz.prog 155 #[.agg #[.bool m, .slice a ds.length cap]] w fun e w' => e = .returned (valueV m ds).v ∧ Below w.heap.size w w' := by
  obtain ⟨T, hT⟩ : ∃ T, Hid (T = valueV m ds) := ⟨_, rfl⟩
  rw [← unhide hT]
  have hb0 := below_alloc (below_alloc (Below.refl w.heap.size w) (.cells #[.bool m, .slice a ds.length cap] 159)) Zero23
  by_cases h4 : 4 < ds.length
  · have i1 : (4 : Int) < (ds.length : Int) := by omega
    have E : Hid (T = .null) := by have := unhide hT; rw [valueV, if_pos h4] at this; exact this
    clear hT ha h4
    go_enter Tryz.func155, Tryz.ntmps155
    go_wp2_with (go_at_call 72; refine (none_any _).mono ?_; rintro e w2 ⟨rfl, hb2⟩; obtain ⟨hc2, hf2⟩ := bcell hb2; rw [Val.open_]; simp only [Val.null])
    refine bodyPost_ret (v := Val.null.v) (by simp [results, Tryz.results155, go_sem, Val.v, Val.null, hc2, hf2]) rfl ⟨by rw [unhide E], ?_⟩
    (repeat (first | exact Below.refl _ _ | refine Below.alloc ?_ (by simp <;> omega) _ | refine Below.drew ?_ | refine Below.setCell ?_ (by simp <;> omega) _ | refine Below.trans ?_ (Below.mono (by assumption) (by first | omega | (simp; omega) | (simp; done)))))
  · have i1 : ¬ (4 : Int) < (ds.length : Int) := by omega
    have hT2 : Hid (T = if m then (if valD ds ≤ 9223372036854775808 then .num (-valD ds) else .null) else (if valD ds < 9223372036854775808 then .num (valD ds) else .null)) := by have := unhide hT; rw [valueV, if_neg h4] at this; exact this
    clear hT
    go_enter Tryz.func155, Tryz.ntmps155
    go_wp2_with fail
    go_loopw [3, 4] (fun u i wx => ∃ k : Nat, k ≤ ds.length ∧ i = .int .i64 ((k : Int) - 1) ∧ u = .int .u64 (valD (ds.drop k)) ∧ wx = (w.alloc (.cells #[.bool m, .slice a ds.length cap] 159)).alloc Zero23) (fun u i wx => (intOf i + 1).toNat)
    case atStart => exact ⟨_, Nat.le_refl _, rfl, by rw [List.drop_length]; rfl, rfl⟩
    case round =>
      obtain ⟨k, hk, rfl, rfl, rfl⟩ := hrel
      cases k with
      | zero =>
        have h1 := valD_nonneg hd
        have h2 : valD ds < 18446744073709551616 := by
          have := valD_lt hd
          rcases (show ds.length = 0 ∨ ds.length = 1 ∨ ds.length = 2 ∨ ds.length = 3 ∨ ds.length = 4 by omega) with e | e | e | e | e <;> rw [e] at this <;> omega
        rw [List.drop_zero]
        clear ha hd
        generalize valD ds = U at *
        cases m
        · by_cases hu : U < 9223372036854775808
          · have E : Hid (T = .num U) := by have := unhide hT2; simp [hu] at this; exact this
            have ew : wrap64 U = U := by unfold wrap64; omega
            clear hT2
            go_wp2_with (go_at_call 105; refine (rnum_any _ _).mono ?_; rintro e w2 ⟨rfl, hb2⟩; obtain ⟨hc2, hf2⟩ := bcell hb2; rw [Val.open_]; simp only [Val.num])
            refine bodyPost_ret (v := (Val.num U).v) (by simp [results, Tryz.results155, go_sem, Val.v, Val.num, hc2, hf2]) rfl ⟨by rw [unhide E], ?_⟩
            (repeat (first | exact Below.refl _ _ | refine Below.alloc ?_ (by simp <;> omega) _ | refine Below.drew ?_ | refine Below.setCell ?_ (by simp <;> omega) _ | refine Below.trans ?_ (Below.mono (by assumption) (by first | omega | (simp; omega) | (simp; done)))))
          · have E : Hid (T = .null) := by have := unhide hT2; simp [hu] at this; exact this
            clear hT2
            go_wp2_with (go_at_call 72; refine (none_any _).mono ?_; rintro e w2 ⟨rfl, hb2⟩; obtain ⟨hc2, hf2⟩ := bcell hb2; rw [Val.open_]; simp only [Val.null])
            refine bodyPost_ret (v := Val.null.v) (by simp [results, Tryz.results155, go_sem, Val.v, Val.null, hc2, hf2]) rfl ⟨by rw [unhide E], ?_⟩
            (repeat (first | exact Below.refl _ _ | refine Below.alloc ?_ (by simp <;> omega) _ | refine Below.drew ?_ | refine Below.setCell ?_ (by simp <;> omega) _ | refine Below.trans ?_ (Below.mono (by assumption) (by first | omega | (simp; omega) | (simp; done)))))
        · by_cases hu : U ≤ 9223372036854775808
          · have E : Hid (T = .num (-U)) := by have := unhide hT2; simp [hu] at this; exact this
            clear hT2
            go_wp2_with (go_at_call 105; refine (rnum_any _ _).mono ?_; rintro e w2 ⟨rfl, hb2⟩; obtain ⟨hc2, hf2⟩ := bcell hb2; rw [Val.open_]; simp only [Val.num])
            have ew : wrap64 (IntKind.u64.wrap (-U)) = -U := by rw [IntKind.wrap_u64]; unfold wrap64; omega
            rw [ew]
            refine bodyPost_ret (v := (Val.num (-U)).v) (by simp [results, Tryz.results155, go_sem, Val.v, Val.num, hc2, hf2]) rfl ⟨by rw [unhide E], ?_⟩
            (repeat (first | exact Below.refl _ _ | refine Below.alloc ?_ (by simp <;> omega) _ | refine Below.drew ?_ | refine Below.setCell ?_ (by simp <;> omega) _ | refine Below.trans ?_ (Below.mono (by assumption) (by first | omega | (simp; omega) | (simp; done)))))
          · have E : Hid (T = .null) := by have := unhide hT2; simp [hu] at this; exact this
            clear hT2
            go_wp2_with (go_at_call 72; refine (none_any _).mono ?_; rintro e w2 ⟨rfl, hb2⟩; obtain ⟨hc2, hf2⟩ := bcell hb2; rw [Val.open_]; simp only [Val.null])
            refine bodyPost_ret (v := Val.null.v) (by simp [results, Tryz.results155, go_sem, Val.v, Val.null, hc2, hf2]) rfl ⟨by rw [unhide E], ?_⟩
            (repeat (first | exact Below.refl _ _ | refine Below.alloc ?_ (by simp <;> omega) _ | refine Below.drew ?_ | refine Below.setCell ?_ (by simp <;> omega) _ | refine Below.trans ?_ (Below.mono (by assumption) (by first | omega | (simp; omega) | (simp; done)))))
      | succ k =>
        have h : k < ds.length := by omega
        obtain ⟨x, hx⟩ : ∃ x, ds[k]? = some x := ⟨_, List.getElem?_eq_getElem h⟩
        have ha' := ha.later hb0
        rcases ha' with e | ⟨b, off, rfl, hc⟩
        · subst e; simp at h
        have hc1 := hc k x hx
        have i2 : (k : Int) < (ds.length : Int) := by omega
        have i4 : ((k + 1 : Nat) : Int) - 1 = (k : Int) := by omega
        have HE : Hid (bits BinOp.or IntKind.u64 (IntKind.u64.wrap (valD (ds.drop (k + 1)) * 65536)) (IntKind.u64.wrap x) = valD (ds.drop k)) := by
          show _ = _
          have h1 := valD_lt (hd.drop (k + 1))
          have h2 : valD (ds.drop (k + 1)) < 281474976710656 := by
            rw [List.length_drop] at h1
            rcases (show ds.length - (k + 1) = 0 ∨ ds.length - (k + 1) = 1 ∨ ds.length - (k + 1) = 2 ∨ ds.length - (k + 1) = 3 by omega) with e | e | e | e <;> rw [e] at h1 <;> omega
          have h3 := hd.at hx
          rw [or_dig _ _ (valD_nonneg (hd.drop _)) h2 h3.1 h3.2, valD_drop hx]
          omega
        clear hc hx ha hT2 h4
        rw [i4]
        generalize valD (ds.drop (k + 1)) = U at *
        go_wp2
        exact ⟨⟨k, by omega, rfl, congrArg (Value.int IntKind.u64) (unhide HE), trivial⟩, by simp [intOf]⟩
end Go.Proofs.YtmjeiepljlepbacGreat
set_option linter.unusedSimpArgs false
set_option linter.unusedVariables false
set_option maxRecDepth 100000
namespace Go.Proofs.YtmjeiepljlepbacGreat
open Go.RowKit Go.Sort
theorem Tryz.info175 : (Tryz.prog.info? 175).map (fun i => (i.zero, i.size, i.bytes)) = some (some (.int .u32 0), 1, 4) := by kernel_rfl

/-- The slice of digits v, a row of the call's own. -/
def OwnD (w : World) (base : Nat) (v : Value) (zs : List Int) : Prop := w.ownsRow base 175 1 v zs.length (zs.map (Value.int .u32))
theorem ownD_app {w : World} {base : Nat} {v : Value} {ys : List Int} {x : Int} (h : w.ownsRow base 175 1 v (ys.length + 1) (ys.map (Value.int .u32) ++ [Value.int .u32 x])) : OwnD w base v (ys ++ [x]) := by
  unfold OwnD
  rw [List.length_append, List.map_append]
  exact h
theorem ownD_lt {w : World} {base : Nat} {v : Value} {xs : List Int} (h : OwnD w base v xs) {g : Nat} (hg : v.ownBlock = some g) : base ≤ g ∧ g < w.heap.size := World.ownsRow.lt h g hg
theorem ownD_dig {w : World} {base : Nat} {v : Value} {zs : List Int} (h : OwnD w base v zs) : ∃ a cap, v = .slice a zs.length cap ∧ zs.length ≤ cap ∧ DigAt w a zs := by
  rcases h.2 with ⟨rfl, h0⟩ | ⟨g, cap, cur, rfl, hh⟩
  · have : zs = [] := List.eq_nil_of_length_eq_zero h0
    subst this
    exact ⟨none, 0, rfl, Nat.le_refl _, .inl rfl⟩
  · refine ⟨_, cap, rfl, ?_, .inr ⟨g, 0, rfl, fun i x hx => ?_⟩⟩
    · exact hh.2.2.1
    · have hc := World.ownsRow.cells h rfl
      have e0 := hc i (.int .u32 x) (by rw [List.getElem?_map, hx]; rfl)
      have ea : ∀ n : Nat, (⟨g, 0, none⟩ : Addr).add n = ⟨g, 0 + n, none⟩ := by
        intro n
        by_cases h : n = 0 <;> simp [Addr.add, h]
      rw [ea] at e0
      exact e0
theorem ownD_none {w : World} {base : Nat} {a : Option Addr} {n cap : Nat} {zs : List Int} (h : OwnD w base (.slice a n cap) zs) : a = none → cap = 0 := by
  intro e
  subst e
  rcases h.2 with ⟨e, _⟩ | ⟨g, cap', cur, e, _⟩
  · cases e; rfl
  · cases e
theorem ownD_at {w : World} {base : Nat} {a : Option Addr} {n cap : Nat} {zs : List Int} (h : OwnD w base (.slice a n cap) zs) : DigAt w a zs := by
  obtain ⟨a2, c2, e, _, h2⟩ := ownD_dig h
  cases e
  exact h2
/-- A store to a box below the row. -/
theorem OwnD.put {w : World} {base : Nat} {v : Value} {zs : List Int} (h : OwnD w base v zs) {p : Addr} (hp : p.block < base) (u : Value) : OwnD (w.setCell p u) base v zs := by
  have hg : w.grownBy (w.setCell p u) (some p.block) := by
    have := (Below.refl p.block w).setCell (p := p) (Nat.le_refl _) u
    exact ⟨this.os, this.tape, this.output, this.size, fun k _ hne => Below.heap_setCell w _ u k (fun e => hne (by rw [e]))⟩
  refine World.ownsRow.kept h hg ?_
  cases hv : v.ownBlock with
  | none => exact .inl rfl
  | some g => exact .inr (by have := (ownD_lt h hv).1; intro e; cases e; omega)

theorem valD_snoc (ds : List Int) (x : Int) : valD (ds ++ [x]) = valD ds + 65536 ^ ds.length * x := by
  induction ds with
  | nil => simp [valD]
  | cons d ds ih =>
    rw [List.cons_append, valD, valD, ih, List.length_cons, Int.pow_succ, Int.mul_add, ← Int.mul_assoc, Int.mul_comm 65536 (65536 ^ ds.length)]
    omega
theorem Digs.snoc {ds : List Int} (h : Digs ds) {x : Int} (h0 : 0 ≤ x) (h1 : x < 65536) : Digs (ds ++ [x]) := by
  intro y hy
  rw [List.mem_append] at hy
  rcases hy with hy | hy
  · exact h y hy
  · simp at hy; subst hy; exact ⟨h0, h1⟩

/-- A long in memory, of the integer z: no zeros at the end. -/
def LongV (w : World) (v : Value) (z : Int) : Prop :=
  ∃ a cap ds, v = .agg #[.bool (decide (z < 0)), .slice a ds.length cap] ∧ ds.length ≤ cap ∧ (a = none → cap = 0) ∧ DigAt w a ds ∧ Digs ds ∧ trimN ds ds.length = ds.length ∧ (valD ds = z ∨ valD ds = -z)

theorem trim_snoc (ds : List Int) (x : Int) (h : ¬ x = 0) : trimN (ds ++ [x]) (ds ++ [x]).length = (ds ++ [x]).length := by
  rw [List.length_append, List.length_singleton, trimN, if_neg]
  simpa [dig] using h
theorem long_step (ds : List Int) (U z : Int) (h : valD ds + 65536 ^ ds.length * U = z) : valD (ds ++ [U % 65536]) + 65536 ^ (ds ++ [U % 65536]).length * (U / 65536) = z := by
  rw [valD_snoc, List.length_append, List.length_singleton, Int.pow_succ, Int.mul_assoc, Int.add_assoc, ← Int.mul_add, Int.emod_add_mul_ediv]
  exact h
theorem pow_step (ds : List Int) (U : Int) (h4 : ds.length < 4) (h : U < 65536 ^ (4 - ds.length)) : U / 65536 < 65536 ^ (4 - (ds ++ [U % 65536]).length) := by
  rw [List.length_append, List.length_singleton]
  rcases (show ds.length = 0 ∨ ds.length = 1 ∨ ds.length = 2 ∨ ds.length = 3 by omega) with e | e | e | e <;> rw [e] at h ⊢ <;> simp at h ⊢ <;> omega
theorem and_dig (U : Int) (h0 : 0 ≤ U) (h1 : U < 18446744073709551616) : bits BinOp.and IntKind.u64 U 65535 = U % 65536 := by
  obtain ⟨a, rfl⟩ := Int.eq_ofNat_of_zero_le h0
  have h := bits_and_u64_nat a 65535 (by omega) (by omega)
  rw [show (65535 : Int) = ((65535 : Nat) : Int) from rfl, h, show (65535 : Nat) = 2 ^ 16 - 1 from rfl, Nat.and_two_pow_sub_one_eq_mod]
  omega

set_option maxHeartbeats 400000 in
theorem longOf_any (n : Int) (w : World) (hn : In64 n) :
    Calls Tryz.prog 153 #[.int .i64 n] w fun e w' => ∃ v, e = .returned v ∧ LongV w' v n ∧ Below w.heap.size w w' := by
  obtain ⟨i0, hi, hz0, hz1, hz2⟩ := info_parts Tryz.info175
  rcases Bool.eq_false_or_eq_true (decide (n < 0)) with hm | hm
  · have hn' : n < 0 := by simpa using hm
    have eU : IntKind.u64.wrap (-IntKind.u64.wrap n) = -n := by rw [IntKind.wrap_u64, IntKind.wrap_u64]; unfold In64 at hn; omega
    have HU := hide eU
    clear eU
    go_enter Tryz.func153, Tryz.ntmps153
    go_wp2_with fail
    go_loopw [3] (fun u wx => ∃ (U : Int) (ds : List Int) (v : Value), u = .int .u64 U ∧ 0 ≤ U ∧ U < 65536 ^ (4 - ds.length) ∧ ds.length ≤ 4 ∧ OwnD wx (w.heap.size + 1 + 1) v ds ∧ Digs ds ∧ Hid (valD ds + 65536 ^ ds.length * U = -n) ∧ Hid (U = 0 → trimN ds ds.length = ds.length) ∧
      wx.cell? ⟨w.heap.size + 1, 0, none⟩ = some (.bool true) ∧ wx.cell? ⟨w.heap.size + 1, 1, none⟩ = some v ∧ wx.frozen? ⟨w.heap.size + 1, 1, none⟩ = false ∧
      wx.cell? ⟨w.heap.size, 0, none⟩ = some (.bool false) ∧ wx.cell? ⟨w.heap.size, 1, none⟩ = some (.slice none 0 0) ∧ wx.frozen? ⟨w.heap.size, 0, none⟩ = false ∧ wx.frozen? ⟨w.heap.size, 1, none⟩ = false ∧
      w.heap.size + 1 + 1 ≤ wx.heap.size ∧ Below w.heap.size w wx) (fun u wx => (intOf u).toNat)
    case atStart =>
      refine ⟨-n, [], .slice none 0 0, by rw [unhide HU], by omega, by unfold In64 at hn; simp; omega, by simp, World.ownsRow_nil _ _ _ _, by intro x hx; simp at hx, by show _ = _; simp [valD], fun _ => rfl, by simp [go_sem], by simp [go_sem], by simp [go_sem], by simp [go_sem], by simp [go_sem], by simp [go_sem], by simp [go_sem], by simp, ?_⟩
      exact below_alloc (below_alloc (Below.refl _ _) _) _
    case round =>
      obtain ⟨U, ds, v, rfl, hU0, hU1, hl, ho, hd, HV, HT, c0, c1, f1, z0, z1, g0, g1, hsz, hbel⟩ := hrel
      by_cases hu : 0 < U
      · have hl4 : ds.length < 4 := by
          rcases Nat.lt_or_eq_of_le hl with h | h
          · exact h
          · rw [h] at hU1; simp at hU1; omega
        have hU64 : U < 18446744073709551616 := by
          rcases (show ds.length = 0 ∨ ds.length = 1 ∨ ds.length = 2 ∨ ds.length = 3 by omega) with e | e | e | e <;> rw [e] at hU1 <;> simp at hU1 <;> omega
        have ea := and_dig U hU0 hU64
        have hd0 : 0 ≤ U % 65536 := Int.emod_nonneg _ (by omega)
        have hd1 : U % 65536 < 65536 := Int.emod_lt_of_pos _ (by omega)
        have HU1 := hide hU1
        have HL := hide hl4
        have HD := hide hd
        have HS := hide hsz
        have HA := hide ea
        clear hU1 hl hd hl4 HU hn hn' hm hU64 ea
        go_wp2_with (at_builtin; refine wpList_append_own_at _ rfl (.tmp 19) (.tmp 23) 157 rfl (w.heap.size + 1 + 1) 175 i0 (.int .u32 0) 1 4 Tryz.underlying157 hi hz0 hz1 hz2 rfl (by decide) _ _ _ rfl (World.ownsRow.alloc ho _) ⟨wr.heap.size, 0, none⟩ 1 1 [_] rfl rfl (cell_one_new _ _ _) (by intro u hu; simp at hu; subst hu; rfl) (by have := unhide HL; unfold maxLen; omega) (by have := unhide HL; omega) (by have := unhide HS; simp; omega) ?_; intro v' w1 hown' hgrow _ hat; have hg2 := Grew.app (Grew.refl wr v) hgrow hat; have hB : Below (w.heap.size + 1 + 1) wr w1 := hg2.below (unhide HS) (fun g hh => (ownD_lt ho hh).1); have ho2 := ownD_app hown'; clear hown' hgrow hat; have hx2 := ownD_dig ho2; obtain ⟨a', q', rfl, hq', hD'⟩ := hx2; have C0 := (hB.cell (p := ⟨w.heap.size + 1, 0, none⟩) (by simp)).trans c0; have C1 := (hB.cell (p := ⟨w.heap.size + 1, 1, none⟩) (by simp)).trans c1; have F1 := (hB.frozen (p := ⟨w.heap.size + 1, 1, none⟩) (by simp)).trans f1; have Z0 := (hB.cell (p := ⟨w.heap.size, 0, none⟩) (by simp; omega)).trans z0; have Z1 := (hB.cell (p := ⟨w.heap.size, 1, none⟩) (by simp; omega)).trans z1; have G0 := (hB.frozen (p := ⟨w.heap.size, 0, none⟩) (by simp; omega)).trans g0; have G1 := (hB.frozen (p := ⟨w.heap.size, 1, none⟩) (by simp; omega)).trans g1)
        rw [unhide HA, show U % 65536 % 4294967296 = U % 65536 by omega] at ho2
        rw [List.length_append, List.length_singleton] at ho2
        refine ⟨⟨U / 65536, ds ++ [U % 65536], .slice a' (ds.length + 1) q', rfl, by omega, pow_step ds U (unhide HL) (unhide HU1), by have := unhide HL; simp; omega, ho2.put (by simp) _, (unhide HD).snoc hd0 hd1, long_step ds U (-n) (unhide HV), fun h => trim_snoc ds _ (by omega), by simp [go_sem, *], by simp [go_sem, *], by simp [go_sem, *], by simp [go_sem, *], by simp [go_sem, *], by simp [go_sem, *], by simp [go_sem, *], by have := hB.size; have := unhide HS; simp; omega, (hbel.trans (hB.mono (by omega))).setCell (by simp) _⟩, by simp only [intOf]; omega⟩
      · have hu0 : U = 0 := by omega
        subst hu0
        have hx2 := ownD_dig ho
        obtain ⟨a', q', rfl, hq', hD'⟩ := hx2
        have ht := unhide HT rfl
        have hv := unhide HV
        have HT2 := hide ht
        have HV2 := hide hv
        have HD := hide hd
        clear hU1 hU0 HT HV ht hv HU hd hl
        have hm2 : Hid (decide (n < 0) = true) := hm
        clear hm hn hn'
        go_wp2
        refine bodyPost_ret (v := .agg #[.bool true, .slice a' ds.length q']) (by simp [results, Tryz.results153, go_sem, *]) rfl ⟨_, rfl, ⟨a', q', ds, by rw [unhide hm2], hq', ownD_none ho, ?_, unhide HD, unhide HT2, .inr (by have := unhide HV2; omega)⟩, ?_⟩
        · exact ownD_at ((ho.put (by simp; omega) _).put (by simp; omega) _)
        · exact (hbel.setCell (by simp) _).setCell (by simp) _
  · have hn' : 0 ≤ n := by simpa using hm
    have eU : IntKind.u64.wrap n = n := by rw [IntKind.wrap_u64]; unfold In64 at hn; omega
    have HU := hide eU
    clear eU
    go_enter Tryz.func153, Tryz.ntmps153
    go_wp2_with fail
    go_loopw [3] (fun u wx => ∃ (U : Int) (ds : List Int) (v : Value), u = .int .u64 U ∧ 0 ≤ U ∧ U < 65536 ^ (4 - ds.length) ∧ ds.length ≤ 4 ∧ OwnD wx (w.heap.size + 1 + 1) v ds ∧ Digs ds ∧ Hid (valD ds + 65536 ^ ds.length * U = n) ∧ Hid (U = 0 → trimN ds ds.length = ds.length) ∧
      wx.cell? ⟨w.heap.size + 1, 0, none⟩ = some (.bool false) ∧ wx.cell? ⟨w.heap.size + 1, 1, none⟩ = some v ∧ wx.frozen? ⟨w.heap.size + 1, 1, none⟩ = false ∧
      wx.cell? ⟨w.heap.size, 0, none⟩ = some (.bool false) ∧ wx.cell? ⟨w.heap.size, 1, none⟩ = some (.slice none 0 0) ∧ wx.frozen? ⟨w.heap.size, 0, none⟩ = false ∧ wx.frozen? ⟨w.heap.size, 1, none⟩ = false ∧
      w.heap.size + 1 + 1 ≤ wx.heap.size ∧ Below w.heap.size w wx) (fun u wx => (intOf u).toNat)
    case atStart =>
      refine ⟨n, [], .slice none 0 0, by rw [unhide HU], by omega, by unfold In64 at hn; simp; omega, by simp, World.ownsRow_nil _ _ _ _, by intro x hx; simp at hx, by show _ = _; simp [valD], fun _ => rfl, by simp [go_sem], by simp [go_sem], by simp [go_sem], by simp [go_sem], by simp [go_sem], by simp [go_sem], by simp [go_sem], by simp, ?_⟩
      exact below_alloc (below_alloc (Below.refl _ _) _) _
    case round =>
      obtain ⟨U, ds, v, rfl, hU0, hU1, hl, ho, hd, HV, HT, c0, c1, f1, z0, z1, g0, g1, hsz, hbel⟩ := hrel
      by_cases hu : 0 < U
      · have hl4 : ds.length < 4 := by
          rcases Nat.lt_or_eq_of_le hl with h | h
          · exact h
          · rw [h] at hU1; simp at hU1; omega
        have hU64 : U < 18446744073709551616 := by
          rcases (show ds.length = 0 ∨ ds.length = 1 ∨ ds.length = 2 ∨ ds.length = 3 by omega) with e | e | e | e <;> rw [e] at hU1 <;> simp at hU1 <;> omega
        have ea := and_dig U hU0 hU64
        have hd0 : 0 ≤ U % 65536 := Int.emod_nonneg _ (by omega)
        have hd1 : U % 65536 < 65536 := Int.emod_lt_of_pos _ (by omega)
        have HU1 := hide hU1
        have HL := hide hl4
        have HD := hide hd
        have HS := hide hsz
        have HA := hide ea
        clear hU1 hl hd hl4 HU hn hn' hm hU64 ea
        go_wp2_with (at_builtin; refine wpList_append_own_at _ rfl (.tmp 19) (.tmp 23) 157 rfl (w.heap.size + 1 + 1) 175 i0 (.int .u32 0) 1 4 Tryz.underlying157 hi hz0 hz1 hz2 rfl (by decide) _ _ _ rfl (World.ownsRow.alloc ho _) ⟨wr.heap.size, 0, none⟩ 1 1 [_] rfl rfl (cell_one_new _ _ _) (by intro u hu; simp at hu; subst hu; rfl) (by have := unhide HL; unfold maxLen; omega) (by have := unhide HL; omega) (by have := unhide HS; simp; omega) ?_; intro v' w1 hown' hgrow _ hat; have hg2 := Grew.app (Grew.refl wr v) hgrow hat; have hB : Below (w.heap.size + 1 + 1) wr w1 := hg2.below (unhide HS) (fun g hh => (ownD_lt ho hh).1); have ho2 := ownD_app hown'; clear hown' hgrow hat; have hx2 := ownD_dig ho2; obtain ⟨a', q', rfl, hq', hD'⟩ := hx2; have C0 := (hB.cell (p := ⟨w.heap.size + 1, 0, none⟩) (by simp)).trans c0; have C1 := (hB.cell (p := ⟨w.heap.size + 1, 1, none⟩) (by simp)).trans c1; have F1 := (hB.frozen (p := ⟨w.heap.size + 1, 1, none⟩) (by simp)).trans f1; have Z0 := (hB.cell (p := ⟨w.heap.size, 0, none⟩) (by simp; omega)).trans z0; have Z1 := (hB.cell (p := ⟨w.heap.size, 1, none⟩) (by simp; omega)).trans z1; have G0 := (hB.frozen (p := ⟨w.heap.size, 0, none⟩) (by simp; omega)).trans g0; have G1 := (hB.frozen (p := ⟨w.heap.size, 1, none⟩) (by simp; omega)).trans g1)
        rw [unhide HA, show U % 65536 % 4294967296 = U % 65536 by omega] at ho2
        rw [List.length_append, List.length_singleton] at ho2
        refine ⟨⟨U / 65536, ds ++ [U % 65536], .slice a' (ds.length + 1) q', rfl, by omega, pow_step ds U (unhide HL) (unhide HU1), by have := unhide HL; simp; omega, ho2.put (by simp) _, (unhide HD).snoc hd0 hd1, long_step ds U n (unhide HV), fun h => trim_snoc ds _ (by omega), by simp [go_sem, *], by simp [go_sem, *], by simp [go_sem, *], by simp [go_sem, *], by simp [go_sem, *], by simp [go_sem, *], by simp [go_sem, *], by have := hB.size; have := unhide HS; simp; omega, (hbel.trans (hB.mono (by omega))).setCell (by simp) _⟩, by simp only [intOf]; omega⟩
      · have hu0 : U = 0 := by omega
        subst hu0
        have hx2 := ownD_dig ho
        obtain ⟨a', q', rfl, hq', hD'⟩ := hx2
        have ht := unhide HT rfl
        have hv := unhide HV
        have HT2 := hide ht
        have HV2 := hide hv
        have HD := hide hd
        clear hU1 hU0 HT HV ht hv HU hd hl
        have hm2 : Hid (decide (n < 0) = false) := hm
        clear hm hn hn'
        go_wp2
        refine bodyPost_ret (v := .agg #[.bool false, .slice a' ds.length q']) (by simp [results, Tryz.results153, go_sem, *]) rfl ⟨_, rfl, ⟨a', q', ds, by rw [unhide hm2], hq', ownD_none ho, ?_, unhide HD, unhide HT2, .inl (by have := unhide HV2; omega)⟩, ?_⟩
        · exact ownD_at ((ho.put (by simp; omega) _).put (by simp; omega) _)
        · exact (hbel.setCell (by simp) _).setCell (by simp) _
end Go.Proofs.YtmjeiepljlepbacGreat
set_option linter.unusedSimpArgs false
set_option linter.unusedVariables false
set_option maxRecDepth 100000
namespace Go.Proofs.YtmjeiepljlepbacGreat
open Go.RowKit Go.Sort

theorem take_dig {ds : List Int} {n : Nat} (h : n < ds.length) : ds.take (n + 1) = ds.take n ++ [dig ds n] := by
  rw [List.take_succ_eq_append_getElem h, dig_some (List.getElem?_eq_getElem h)]
theorem val_take {ds : List Int} {n : Nat} (h : n < ds.length) : valD (ds.take (n + 1)) = valD (ds.take n) + 65536 ^ n * dig ds n := by
  rw [take_dig h, valD_snoc, List.length_take, Nat.min_eq_left (by omega)]
theorem val_trim (ds : List Int) : ∀ n, n ≤ ds.length → valD (ds.take (trimN ds n)) = valD (ds.take n)
  | 0, _ => rfl
  | n + 1, h => by
    rw [trimN]
    split
    · rename_i h0
      rw [val_trim ds n (by omega), val_take (by omega), h0]
      simp
    · rfl
theorem dig_take {ds : List Int} {n k : Nat} (h : k < n) : dig (ds.take n) k = dig ds k := by
  unfold dig
  rw [List.getElem?_take_of_lt h]
theorem trim_take (ds : List Int) (m : Nat) : ∀ n, n ≤ m → trimN (ds.take m) n = trimN ds n
  | 0, _ => rfl
  | n + 1, h => by
    rw [trimN, trimN, dig_take (by omega), trim_take ds m n (by omega)]
theorem trim_trim (ds : List Int) : ∀ n, trimN ds (trimN ds n) = trimN ds n
  | 0 => rfl
  | n + 1 => by
    rw [trimN]
    split
    · exact trim_trim ds n
    · rename_i h0
      rw [trimN, if_neg h0]
/-- What 'trimmed' leaves: the same number, no zeros at the end. -/
theorem trim_good (ds : List Int) (hd : Digs ds) : ∃ es, ds.take (trimN ds ds.length) = es ∧ es.length = trimN ds ds.length ∧ Digs es ∧ valD es = valD ds ∧ trimN es es.length = es.length := by
  have hl := trimN_le ds ds.length
  have hlen : (ds.take (trimN ds ds.length)).length = trimN ds ds.length := by rw [List.length_take]; omega
  refine ⟨_, rfl, hlen, fun x hx => hd x (List.mem_of_mem_take hx), ?_, ?_⟩
  · rw [val_trim ds _ (Nat.le_refl _), List.take_length]
  · rw [hlen, trim_take _ _ _ (Nat.le_refl _), trim_trim]

theorem dig_bd {ds : List Int} (hd : Digs ds) (i : Nat) : 0 ≤ dig ds i ∧ dig ds i < 65536 := by
  unfold dig
  cases h : ds[i]? with
  | none => simp
  | some x => exact hd.at h
theorem digs_take {ds : List Int} (hd : Digs ds) (n : Nat) : Digs (ds.take n) := fun x hx => hd x (List.mem_of_mem_take hx)
theorem pow_pos' (n : Nat) : (0 : Int) < 65536 ^ n := Int.pow_pos (by omega)

/-- No zeros at the end: at least the place's worth. -/
theorem val_ge {ds : List Int} (hd : Digs ds) {n : Nat} (hn : ds.length = n + 1) (ht : trimN ds ds.length = ds.length) : 65536 ^ n ≤ valD ds := by
  have h0 : ¬ dig ds n = 0 := by
    intro h
    rw [hn, trimN, if_pos h] at ht
    have := trimN_le ds n
    omega
  have h1 := dig_bd hd n
  have h2 := val_take (ds := ds) (n := n) (by omega)
  rw [show n + 1 = ds.length by omega, List.take_length] at h2
  have h3 := valD_nonneg (digs_take hd n)
  have h4 : (65536 : Int) ^ n * 1 ≤ 65536 ^ n * dig ds n := Int.mul_le_mul_of_nonneg_left (by omega) (Int.le_of_lt (pow_pos' n))
  omega
theorem val_zero {ds : List Int} (hd : Digs ds) (ht : trimN ds ds.length = ds.length) (h : valD ds = 0) : ds = [] := by
  cases hl : ds.length with
  | zero => exact List.eq_nil_of_length_eq_zero hl
  | succ n =>
    have := val_ge hd hl ht
    have := pow_pos' n
    omega
theorem pow_mono {m n : Nat} (h : m ≤ n) : (65536 : Int) ^ m ≤ 65536 ^ n := by
  induction h with
  | refl => exact Int.le_refl _
  | step _ ih => rw [Int.pow_succ]; have := pow_pos' m; omega
theorem val_len {ds es : List Int} (hd : Digs ds) (he : Digs es) (ht : trimN es es.length = es.length) (h : ds.length < es.length) : valD ds < valD es := by
  obtain ⟨n, hn⟩ : ∃ n, es.length = n + 1 := ⟨es.length - 1, by omega⟩
  have h1 := val_ge he hn ht
  have h2 := valD_lt hd
  have h3 := pow_mono (m := ds.length) (n := n) (by omega)
  omega
theorem cmpI_lt {a b : Int} (h : a < b) : cmpI a b = -1 := by unfold cmpI; rw [if_pos h]
theorem cmpI_gt {a b : Int} (h : b < a) : cmpI a b = 1 := by unfold cmpI; rw [if_neg (by omega), if_pos h]
theorem sizeN_val {ds es : List Int} (hd : Digs ds) (he : Digs es) : ∀ n, n ≤ ds.length → n ≤ es.length → sizeN ds es n = cmpI (valD (ds.take n)) (valD (es.take n))
  | 0, _, _ => by simp [sizeN, cmpI]
  | n + 1, h1, h2 => by
    rw [sizeN, val_take (by omega), val_take (by omega)]
    split
    · rename_i h
      rw [sizeN_val hd he n (by omega) (by omega), h]
      unfold cmpI
      congr 1
      · simp
      · congr 1; simp
    · rename_i h
      have a1 := valD_lt (digs_take hd n)
      have a2 := valD_lt (digs_take he n)
      have a3 := valD_nonneg (digs_take hd n)
      have a4 := valD_nonneg (digs_take he n)
      rw [List.length_take, Nat.min_eq_left (by omega)] at a1 a2
      by_cases hx : dig ds n < dig es n
      · have := Int.mul_le_mul_of_nonneg_left (show dig ds n + 1 ≤ dig es n by omega) (Int.le_of_lt (pow_pos' n))
        rw [Int.mul_add, Int.mul_one] at this
        rw [cmpI_lt (by omega)]
        simp [rcmpI, hx]
      · have := Int.mul_le_mul_of_nonneg_left (show dig es n + 1 ≤ dig ds n by omega) (Int.le_of_lt (pow_pos' n))
        rw [Int.mul_add, Int.mul_one] at this
        rw [cmpI_gt (by omega)]
        simp [rcmpI, hx]
theorem sizeV_val {ds es : List Int} (hd : Digs ds) (he : Digs es) (ht : trimN ds ds.length = ds.length) (ht2 : trimN es es.length = es.length) : sizeV ds es = cmpI (valD ds) (valD es) := by
  unfold sizeV
  split
  · rename_i h
    rw [sizeN_val hd he _ (Nat.le_refl _) (by omega), List.take_length, h, List.take_length]
  · rename_i h
    by_cases hx : ds.length < es.length
    · have := val_len hd he ht2 hx
      rw [cmpI_lt this]
      simp [rcmpI, hx]
    · have := val_len he hd ht (by omega)
      rw [cmpI_gt this]
      simp [rcmpI, hx]
end Go.Proofs.YtmjeiepljlepbacGreat

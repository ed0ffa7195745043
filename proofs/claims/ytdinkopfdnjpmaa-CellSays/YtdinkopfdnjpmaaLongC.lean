import Derived.Test.YtdinkopfdnjpmaaLongB
set_option linter.unusedSimpArgs false
set_option linter.unusedVariables false
namespace Go.Proofs.Ytdinkopfdnjpmaa
open Go.RowKit Go.Sort

/-- Digits to the base 65536. -/
def Digs (ds : List Int) : Prop := ∀ x ∈ ds, 0 ≤ x ∧ x < 65536
/-- The number that digits spell, the lowest first. -/
def valD : List Int → Int
  | [] => 0
  | d :: ds => d + 65536 * valD ds
theorem valD_nonneg : ∀ {ds : List Int}, Digs ds → 0 ≤ valD ds
  | [], _ => Int.le_refl _
  | d :: ds, h => by
    have h1 := h d (by simp)
    have h2 := valD_nonneg (ds := ds) (fun x hx => h x (by simp [hx]))
    rw [valD]; omega
theorem valD_lt : ∀ {ds : List Int}, Digs ds → valD ds < 65536 ^ ds.length
  | [], _ => by simp [valD]
  | d :: ds, h => by
    have h1 := h d (by simp)
    have h2 := valD_lt (ds := ds) (fun x hx => h x (by simp [hx]))
    rw [valD, List.length_cons, Int.pow_succ]
    omega
theorem valD_drop {ds : List Int} {k : Nat} {x : Int} (h : ds[k]? = some x) : valD (ds.drop k) = x + 65536 * valD (ds.drop (k + 1)) := by
  obtain ⟨h1, rfl⟩ := List.getElem?_eq_some_iff.1 h
  rw [List.drop_eq_getElem_cons h1, valD]
theorem Digs.drop {ds : List Int} (h : Digs ds) (k : Nat) : Digs (ds.drop k) := fun x hx => h x (List.mem_of_mem_drop hx)
theorem Digs.at {ds : List Int} (h : Digs ds) {k : Nat} {x : Int} (hx : ds[k]? = some x) : 0 ≤ x ∧ x < 65536 := h x (List.mem_of_getElem? hx)

theorem or_dig (U c : Int) (h0 : 0 ≤ U) (h1 : U < 281474976710656) (c0 : 0 ≤ c) (c1 : c < 65536) : bits BinOp.or IntKind.u64 (IntKind.u64.wrap (U * 65536)) (IntKind.u64.wrap c) = U * 65536 + c := by
  obtain ⟨a, rfl⟩ := Int.eq_ofNat_of_zero_le h0
  obtain ⟨b, rfl⟩ := Int.eq_ofNat_of_zero_le c0
  rw [IntKind.wrap_u64, IntKind.wrap_u64, Int.emod_eq_of_lt (by omega) (by omega), Int.emod_eq_of_lt (by omega) (by omega)]
  have h := bits_or_u64_nat (2 ^ 16 * a) b (by omega) (by omega)
  rw [← Nat.two_pow_add_eq_or_of_lt (by omega) a] at h
  rw [show (a : Int) * 65536 = ((2 ^ 16 * a : Nat) : Int) by omega, h]
  omega

def valueV (m : Bool) (ds : List Int) : Val :=
  if 4 < ds.length then .null
  else if m then (if valD ds ≤ 9223372036854775808 then .num (-valD ds) else .null)
  else (if valD ds < 9223372036854775808 then .num (valD ds) else .null)

set_option maxHeartbeats 1000000 in
theorem value_any (a : Option Addr) (cap : Nat) (ds : List Int) (m : Bool) (w : World) (hl : ds.length ≤ 1000000000) (hd : Digs ds) (ha : DigAt w a ds) :
    Calls Try.prog 54 #[.agg #[.bool m, .slice a ds.length cap]] w fun e w' => e = .returned (valueV m ds).v ∧ Below w.heap.size w w' := by
  obtain ⟨T, hT⟩ : ∃ T, Hid (T = valueV m ds) := ⟨_, rfl⟩
  rw [← unhide hT]
  have hb0 := below_alloc (below_alloc (Below.refl w.heap.size w) (.cells #[.bool m, .slice a ds.length cap] 58)) Zero23
  by_cases h4 : 4 < ds.length
  · have i1 : (4 : Int) < (ds.length : Int) := by omega
    have E : Hid (T = .null) := by have := unhide hT; rw [valueV, if_pos h4] at this; exact this
    clear hT ha h4
    go_enter Try.func54, Try.ntmps54
    go_wp2_with (go_at_call 42; refine (none_any _).mono ?_; rintro e w2 ⟨rfl, hb2⟩; obtain ⟨hc2, hf2⟩ := bcell hb2; rw [Val.open_]; simp only [Val.null])
    refine bodyPost_ret (v := Val.null.v) (by simp [results, Try.results54, go_sem, Val.v, Val.null, hc2, hf2]) rfl ⟨by rw [unhide E], ?_⟩
    (repeat (first | exact Below.refl _ _ | refine Below.alloc ?_ (by simp <;> omega) _ | refine Below.drew ?_ | refine Below.setCell ?_ (by simp <;> omega) _ | refine Below.trans ?_ (Below.mono (by assumption) (by first | omega | (simp; omega) | (simp; done)))))
  · have i1 : ¬ (4 : Int) < (ds.length : Int) := by omega
    have hT2 : Hid (T = if m then (if valD ds ≤ 9223372036854775808 then .num (-valD ds) else .null) else (if valD ds < 9223372036854775808 then .num (valD ds) else .null)) := by have := unhide hT; rw [valueV, if_neg h4] at this; exact this
    clear hT
    go_enter Try.func54, Try.ntmps54
    go_wp2_with fail
    go_loopw [3, 4] (fun u i wx => ∃ k : Nat, k ≤ ds.length ∧ i = .int .i64 ((k : Int) - 1) ∧ u = .int .u64 (valD (ds.drop k)) ∧ wx = (w.alloc (.cells #[.bool m, .slice a ds.length cap] 58)).alloc Zero23) (fun u i wx => (intOf i + 1).toNat)
    case atStart => exact ⟨_, Nat.le_refl _, rfl, by rw [List.drop_length]; rfl, rfl⟩
    case round =>
      obtain ⟨k, hk, rfl, rfl, rfl⟩ := hrel
      cases k with
      | zero =>
        have h1 := valD_nonneg hd
        have h2 : valD ds < 18446744073709551616 := by
          have := valD_lt hd
          rcases (show ds.length = 0 ∨ ds.length = 1 ∨ ds.length = 2 ∨ ds.length = 3 ∨ ds.length = 4 by omega) with e | e | e | e | e <;> rw [e] at this <;> omega
        rw [List.drop_zero]
        clear ha hd
        generalize valD ds = U at *
        cases m
        · by_cases hu : U < 9223372036854775808
          · have E : Hid (T = .num U) := by have := unhide hT2; simp [hu] at this; exact this
            have ew : wrap64 U = U := by unfold wrap64; omega
            clear hT2
            go_wp2_with (go_at_call 40; refine (rnum_any _ _).mono ?_; rintro e w2 ⟨rfl, hb2⟩; obtain ⟨hc2, hf2⟩ := bcell hb2; rw [Val.open_]; simp only [Val.num])
            refine bodyPost_ret (v := (Val.num U).v) (by simp [results, Try.results54, go_sem, Val.v, Val.num, hc2, hf2]) rfl ⟨by rw [unhide E], ?_⟩
            (repeat (first | exact Below.refl _ _ | refine Below.alloc ?_ (by simp <;> omega) _ | refine Below.drew ?_ | refine Below.setCell ?_ (by simp <;> omega) _ | refine Below.trans ?_ (Below.mono (by assumption) (by first | omega | (simp; omega) | (simp; done)))))
          · have E : Hid (T = .null) := by have := unhide hT2; simp [hu] at this; exact this
            clear hT2
            go_wp2_with (go_at_call 42; refine (none_any _).mono ?_; rintro e w2 ⟨rfl, hb2⟩; obtain ⟨hc2, hf2⟩ := bcell hb2; rw [Val.open_]; simp only [Val.null])
            refine bodyPost_ret (v := Val.null.v) (by simp [results, Try.results54, go_sem, Val.v, Val.null, hc2, hf2]) rfl ⟨by rw [unhide E], ?_⟩
            (repeat (first | exact Below.refl _ _ | refine Below.alloc ?_ (by simp <;> omega) _ | refine Below.drew ?_ | refine Below.setCell ?_ (by simp <;> omega) _ | refine Below.trans ?_ (Below.mono (by assumption) (by first | omega | (simp; omega) | (simp; done)))))
        · by_cases hu : U ≤ 9223372036854775808
          · have E : Hid (T = .num (-U)) := by have := unhide hT2; simp [hu] at this; exact this
            clear hT2
            go_wp2_with (go_at_call 40; refine (rnum_any _ _).mono ?_; rintro e w2 ⟨rfl, hb2⟩; obtain ⟨hc2, hf2⟩ := bcell hb2; rw [Val.open_]; simp only [Val.num])
            have ew : wrap64 (IntKind.u64.wrap (-U)) = -U := by rw [IntKind.wrap_u64]; unfold wrap64; omega
            rw [ew]
            refine bodyPost_ret (v := (Val.num (-U)).v) (by simp [results, Try.results54, go_sem, Val.v, Val.num, hc2, hf2]) rfl ⟨by rw [unhide E], ?_⟩
            (repeat (first | exact Below.refl _ _ | refine Below.alloc ?_ (by simp <;> omega) _ | refine Below.drew ?_ | refine Below.setCell ?_ (by simp <;> omega) _ | refine Below.trans ?_ (Below.mono (by assumption) (by first | omega | (simp; omega) | (simp; done)))))
          · have E : Hid (T = .null) := by have := unhide hT2; simp [hu] at this; exact this
            clear hT2
            go_wp2_with (go_at_call 42; refine (none_any _).mono ?_; rintro e w2 ⟨rfl, hb2⟩; obtain ⟨hc2, hf2⟩ := bcell hb2; rw [Val.open_]; simp only [Val.null])
            refine bodyPost_ret (v := Val.null.v) (by simp [results, Try.results54, go_sem, Val.v, Val.null, hc2, hf2]) rfl ⟨by rw [unhide E], ?_⟩
            (repeat (first | exact Below.refl _ _ | refine Below.alloc ?_ (by simp <;> omega) _ | refine Below.drew ?_ | refine Below.setCell ?_ (by simp <;> omega) _ | refine Below.trans ?_ (Below.mono (by assumption) (by first | omega | (simp; omega) | (simp; done)))))
      | succ k =>
        have h : k < ds.length := by omega
        obtain ⟨x, hx⟩ : ∃ x, ds[k]? = some x := ⟨_, List.getElem?_eq_getElem h⟩
        have ha' := ha.later hb0
        rcases ha' with e | ⟨b, off, rfl, hc⟩
        · subst e; simp at h
        have hc1 := hc k x hx
        have i2 : (k : Int) < (ds.length : Int) := by omega
        have i4 : ((k + 1 : Nat) : Int) - 1 = (k : Int) := by omega
        have HE : Hid (bits BinOp.or IntKind.u64 (IntKind.u64.wrap (valD (ds.drop (k + 1)) * 65536)) (IntKind.u64.wrap x) = valD (ds.drop k)) := by
          show _ = _
          have h1 := valD_lt (hd.drop (k + 1))
          have h2 : valD (ds.drop (k + 1)) < 281474976710656 := by
            rw [List.length_drop] at h1
            rcases (show ds.length - (k + 1) = 0 ∨ ds.length - (k + 1) = 1 ∨ ds.length - (k + 1) = 2 ∨ ds.length - (k + 1) = 3 by omega) with e | e | e | e <;> rw [e] at h1 <;> omega
          have h3 := hd.at hx
          rw [or_dig _ _ (valD_nonneg (hd.drop _)) h2 h3.1 h3.2, valD_drop hx]
          omega
        clear hc hx ha hT2 h4
        rw [i4]
        generalize valD (ds.drop (k + 1)) = U at *
        go_wp2
        exact ⟨⟨k, by omega, rfl, congrArg (Value.int IntKind.u64) (unhide HE), trivial⟩, by simp [intOf]⟩
end Go.Proofs.Ytdinkopfdnjpmaa

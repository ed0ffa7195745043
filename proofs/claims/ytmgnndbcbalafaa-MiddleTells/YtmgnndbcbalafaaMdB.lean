import Derived.Test.YtmgnndbcbalafaaChecked
import Derived.Test.YtmgnndbcbalafaaMdA
import Derived.WalkKit
import Derived.WalkSpells
import Derived.WalkLawsBesides
import Derived.StillTactics
import Derived.Deep.RegionHeld3
import Derived.Lib.QuietBelow
import Derived.BigQuiet
import Derived.RowKit3
import Derived.Deep.DeepCutAuto
import Derived.Deep.DrawnRows
import Derived.Lib.Bytealg
import Derived.Maps.AppendAt
import Derived.Deep.AppendLies
import Derived.Deep.OwnRows
set_option linter.unusedSimpArgs false
set_option linter.unusedVariables false
namespace Go.Proofs.Ytmgnndbcbalafaa
open Go.RowKit Go.Sort

theorem hide {p : Prop} (h : p) : Hid p := h
theorem unhide {p : Prop} (h : Hid p) : p := h
theorem below_step {W0 w' w1 : World} (h : Below W0.heap.size W0 w') (h1 : Below w'.heap.size w' w1) : Below W0.heap.size W0 w1 := h.trans (h1.mono h.size)
theorem below_alloc {W0 w' : World} (h : Below W0.heap.size W0 w') (o : Obj) : Below W0.heap.size W0 (w'.alloc o) := h.alloc h.size o
theorem bcell {W w1 : World} (hb : Below W.heap.size W w1) : (∀ b o, b < W.heap.size → w1.cell? ⟨b, o, none⟩ = W.cell? ⟨b, o, none⟩) ∧ (∀ b o, b < W.heap.size → w1.frozen? ⟨b, o, none⟩ = W.frozen? ⟨b, o, none⟩) :=
  ⟨fun b o h => hb.cell (p := ⟨b, o, none⟩) h, fun b o h => hb.frozen (p := ⟨b, o, none⟩) h⟩

def ints (zs : List Int) : List Value := zs.map (Value.int .i64)
/-- A slice of numbers, as it lies in memory. -/
def NumAt (w : World) (a : Option Addr) (zs : List Int) : Prop :=
  zs = [] ∨ ∃ b off, a = some ⟨b, off, none⟩ ∧ ∀ i x, zs[i]? = some x → w.cell? ⟨b, off + i, none⟩ = some (.int .i64 x)
theorem NumAt.later {w w' : World} {a : Option Addr} {zs : List Int} (h : NumAt w a zs) (hb : Below w.heap.size w w') : NumAt w' a zs := by
  rcases h with h | ⟨b, off, ha, h⟩
  · exact .inl h
  · exact .inr ⟨b, off, ha, fun i x hx => cell_later hb (h i x hx)⟩

def atZ (zs : List Int) (k : Nat) : Int := zs.getD k 0
theorem atZ_some {zs : List Int} {k : Nat} (h : k < zs.length) : zs[k]? = some (atZ zs k) := by
  simp [atZ, List.getD, List.getElem?_eq_getElem h]
theorem cn_at {zs : List Int} {x : Int} {k : Nat} (hk : k ≤ zs.length) (h1 : ∀ a y, a < k → zs[a]? = some y → y ≤ x) (h2 : ∀ a y, k ≤ a → zs[a]? = some y → x < y) : cn x zs = k := by
  rw [← List.take_append_drop k zs, cn_append]
  rw [cn_all (l := zs.take k) (fun a ha => by
    obtain ⟨i, hi, e⟩ := List.mem_iff_getElem.1 ha
    rw [List.length_take] at hi
    refine h1 i a (by omega) ?_
    rw [List.getElem_take] at e
    rw [← e, List.getElem?_eq_getElem])]
  rw [cn_none (l := zs.drop k) (fun a ha => by
    obtain ⟨i, hi, e⟩ := List.mem_iff_getElem.1 ha
    rw [List.length_drop] at hi
    refine h2 (k + i) a (by omega) ?_
    rw [List.getElem_drop] at e
    rw [← e, List.getElem?_eq_getElem])]
  simp; omega

set_option maxHeartbeats 2000000 in
set_option maxRecDepth 100000 in
theorem above_any (zs : List Int) (x : Int) (a8 : Option Addr) (c8 B8 B3 k : Nat) (W : World) (hk : k < zs.length) (hl : zs.length ≤ 1048576) (hr : NumAt W a8 zs) (hb : W.cell? ⟨B8, 0, none⟩ = some (.slice a8 zs.length c8)) (hx : W.cell? ⟨B3, 0, none⟩ = some (.int .i64 x)) :
    Calls Try.prog 22 #[.int .i64 k, .pointer (some ⟨B8, 0, none⟩), .pointer (some ⟨B3, 0, none⟩)] W fun e w' => e = .returned (.bool (decide (x < atZ zs k))) ∧ Below W.heap.size W w' := by
  rcases hr with e | ⟨b, off, rfl, hc⟩
  · rw [e] at hk; simp at hk
  have c0 := hc k _ (atZ_some hk)
  generalize atZ zs k = y at *
  have i1 : (k : Int) < (zs.length : Int) := by omega
  clear hc
  go_enter Try.func22, Try.ntmps22
  go_upto_region 1 with fail
  have k0 := cell_regrown c0
  have k3 := cell_regrown hx
  have k6 := cell_regrown hb
  clear c0 hb hx
  refine wp_region_quiet_below (by kernel_rfl) (by kernel_rfl) ?_
  repeat (go_big_quiet_step (fail))
  refine wpQuiet_nil ?_
  intro w' hw'
  have hB : Below W.heap.size W w' := by obtain ⟨p, rfl⟩ := hw'; exact below_regrown _ _ _
  clear hw'
  go_wp2
  go_ret
  exact ⟨rfl, hB⟩

set_option maxHeartbeats 4000000 in
set_option maxRecDepth 100000 in
theorem search_any (zs : List Int) (x : Int) (a8 : Option Addr) (c8 B8 B3 : Nat) (w : World) (hl : zs.length ≤ 1048576) (hri : Ris zs) (hr : NumAt w a8 zs) (hb : w.cell? ⟨B8, 0, none⟩ = some (.slice a8 zs.length c8)) (hx : w.cell? ⟨B3, 0, none⟩ = some (.int .i64 x)) :
    Calls Try.prog 21 #[.int .i64 zs.length, .func (.func 22) #[] #[.pointer (some ⟨B8, 0, none⟩), .pointer (some ⟨B3, 0, none⟩)]] w fun e w' => e = .returned (.int .i64 (cn x zs : Int)) ∧ Below w.heap.size w w' := by
  have HC : Hid (∀ W k, Below w.heap.size w W → k < zs.length → Calls Try.prog 22 #[.int .i64 (k : Nat), .pointer (some ⟨B8, 0, none⟩), .pointer (some ⟨B3, 0, none⟩)] W fun e w' => e = .returned (.bool (decide (x < atZ zs k))) ∧ Below W.heap.size W w') := fun W k hW hk => above_any zs x a8 c8 B8 B3 k W hk hl (hr.later hW) (cell_later hW hb) (cell_later hW hx)
  have HP : Hid (∀ k, k ≤ zs.length → (∀ a y, a < k → zs[a]? = some y → y ≤ x) → (∀ a y, k ≤ a → zs[a]? = some y → x < y) → cn x zs = k) := fun k h1 h2 h3 => cn_at h1 h2 h3
  have HM : Hid (∀ (a b : Nat) (y z : Int), a ≤ b → zs[a]? = some y → zs[b]? = some z → y ≤ z) := fun a b y z hab ha hb => by
    obtain ⟨h1, e1⟩ := List.getElem?_eq_some_iff.1 ha
    obtain ⟨h2, e2⟩ := List.getElem?_eq_some_iff.1 hb
    by_cases e : a = b
    · subst e; rw [← e1, ← e2]; exact Int.le_refl _
    · have := List.pairwise_iff_getElem.1 hri a b h1 h2 (by omega)
      rw [e1, e2] at this; exact this
  generalize cn x zs = R at *
  clear hr hb hx hri
  go_enter Try.func21, Try.ntmps21
  go_wp2_with fail
  go_loopw [5, 6] (fun s5 s6 wr => ∃ i j : Nat, s5 = .int .i64 (i : Int) ∧ s6 = .int .i64 (j : Int) ∧ i ≤ j ∧ j ≤ zs.length ∧ Hid (∀ a y, a < i → zs[a]? = some y → y ≤ x) ∧ Hid (∀ a y, j ≤ a → zs[a]? = some y → x < y) ∧ Below w.heap.size w wr) (fun s5 s6 _ => (intOf s6 - intOf s5).toNat)
  case atStart => exact ⟨0, zs.length, rfl, rfl, Nat.zero_le _, Nat.le_refl _, fun a y h => (by omega), fun a y h h2 => (by rw [List.getElem?_eq_none (by omega)] at h2; cases h2), Below.refl _ _⟩
  case round =>
    obtain ⟨i, j, rfl, rfl, hij, hjn, HLO, HHI, hb⟩ := hrel
    by_cases h1 : i < j
    · have i1 : (i : Int) < (j : Int) := by omega
      obtain ⟨h, hh⟩ : ∃ h, h = (i + j) / 2 := ⟨_, rfl⟩
      have eh : ((i : Int) + (j : Int)) / 2 = (h : Int) := by omega
      have i3 : (i : Int) + (j : Int) ≤ 2097152 := by omega
      have hhj : i ≤ h ∧ h < j := by omega
      have HHJ := hide hhj
      have HL := hide (unhide HC wr h hb (by omega))
      have HB := hide hb
      have hx := atZ_some (show h < zs.length by omega)
      have HX := hide hx
      clear hh hhj hb hx
      obtain ⟨bb, hlt⟩ : ∃ bb, decide (x < atZ zs h) = bb := ⟨_, rfl⟩
      rw [hlt] at HL
      cases bb
      · have HLO2 : Hid (∀ a y, a < h + 1 → zs[a]? = some y → y ≤ x) := fun a y ha hy => by
          have h1 := unhide HM a h y _ (by omega) hy (unhide HX)
          have h2 := of_decide_eq_false hlt
          omega
        clear hlt
        go_wp2_with (go_at_call 22; refine (unhide HL).mono ?_; rintro e w2 ⟨rfl, hb2⟩; replace hb2 := hide hb2)
        go_roundw
        case rel => exact ⟨h + 1, j, by go_num, rfl, by have := unhide HHJ; omega, hjn, HLO2, HHI, below_step (unhide HB) (unhide hb2)⟩
        case measure => have := unhide HHJ; first | (simp [intOf]; omega) | (simp only [intOf]; omega)
      · have HHI2 : Hid (∀ a y, h ≤ a → zs[a]? = some y → x < y) := fun a y ha hy => by
          have h1 := unhide HM h a _ y ha (unhide HX) hy
          have h2 := of_decide_eq_true hlt
          omega
        clear hlt
        go_wp2_with (go_at_call 22; refine (unhide HL).mono ?_; rintro e w2 ⟨rfl, hb2⟩; replace hb2 := hide hb2)
        go_roundw
        case rel => exact ⟨i, h, rfl, by go_num, (unhide HHJ).1, by have := unhide HHJ; omega, HLO, HHI2, below_step (unhide HB) (unhide hb2)⟩
        case measure => have := unhide HHJ; first | (simp [intOf]; omega) | (simp only [intOf]; omega)
    · have i1 : ¬ (i : Int) < (j : Int) := by omega
      have hij' : i = j := by omega
      have HE : Hid (R = i) := by
        show _ = _
        exact unhide HP i (by omega) (unhide HLO) (fun a y h2 h3 => unhide HHI a y (by omega) h3)
      have HB := hide hb
      clear hb hij'
      go_wp2
      go_ret
      exact ⟨by rw [unhide HE]; rfl, unhide HB⟩

set_option maxRecDepth 100000 in
/-- notAbove. -/
theorem notAbove_any (zs : List Int) (x : Int) (a : Option Addr) (c : Nat) (w : World) (hl : zs.length ≤ 1048576) (hri : Ris zs) (hr : NumAt w a zs) :
    Calls Try.prog 12 #[.slice a zs.length c, .int .i64 x] w fun e w' => e = .returned (.int .i64 (cn x zs : Int)) ∧ Below w.heap.size w w' := by
  have HS : Hid (∀ W, Below w.heap.size w W → W.cell? ⟨w.heap.size, 0, none⟩ = some (.slice a zs.length c) → W.cell? ⟨w.heap.size + 1, 0, none⟩ = some (.int .i64 x) → Calls Try.prog 21 #[.int .i64 zs.length, .func (.func 22) #[] #[.pointer (some ⟨w.heap.size, 0, none⟩), .pointer (some ⟨w.heap.size + 1, 0, none⟩)]] W fun e w' => e = .returned (.int .i64 (cn x zs : Int)) ∧ Below W.heap.size W w') :=
    fun W hW h1 h2 => search_any zs x a c _ _ W hl hri (hr.later hW) h1 h2
  generalize cn x zs = R at *
  clear hr hri
  go_enter Try.func12, Try.ntmps12
  go_wp2_with (go_at_call 21; refine (unhide HS _ (below_alloc (below_alloc (Below.refl _ _) _) _) (by simp [go_sem]) (by simp [go_sem])).mono ?_; rintro e w2 ⟨rfl, hb2⟩; replace hb2 := hide hb2)
  go_ret
  exact ⟨rfl, below_step (below_alloc (below_alloc (Below.refl _ _) _) _) (unhide hb2)⟩
end Go.Proofs.Ytmgnndbcbalafaa

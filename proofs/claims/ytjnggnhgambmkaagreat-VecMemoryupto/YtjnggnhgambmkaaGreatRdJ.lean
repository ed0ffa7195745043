import Derived.Test.YtjnggnhgambmkaaGreatRdI
set_option linter.unusedSimpArgs false
set_option linter.unusedVariables false
namespace Go.Proofs.YtjnggnhgambmkaaGreat
open Go.RowKit Go.Sort

set_option maxHeartbeats 400000 in
set_option maxRecDepth 100000 in
theorem offs_no1 {b count : Nat} {l : List UInt8} {w : World} (h : Rd w b l) (hl : l.length ≤ 140737488355328) (hM : numD 8 l = none) :
    Calls Tryz.prog 75 #[.pointer (some ⟨b, 0, none⟩), .int .i64 count] w fun e w' => e = dmg ∧ Gr w w' b := by
  have HM := hide (numd_no h hl hM)
  clear h
  go_enter Tryz.func75, Tryz.ntmps75
  go_wp2_with (go_at_call 53; refine (unhide HM).mono ?_; rintro e w1 ⟨rfl, rfl⟩)
  exact ⟨rfl, rfl, Gr.refl _ _⟩
set_option maxHeartbeats 400000 in
set_option maxRecDepth 100000 in
theorem offs_no2 {b count M : Nat} {l l1 : List UInt8} {w : World} (h : Rd w b l) (hl : l.length ≤ 140737488355328) (hM : numD 8 l = some (M, l1)) (hd : numD 1 l1 = none) :
    Calls Tryz.prog 75 #[.pointer (some ⟨b, 0, none⟩), .int .i64 count] w fun e w' => e = dmg ∧ Gr w w' b := by
  have HM := hide (numd_yes h hl hM (by decide))
  have hl1 := numD_le hM
  have HD := hide (fun W (hW : Rd W b l1) => numd_no hW (by omega) hd)
  clear h
  go_enter Tryz.func75, Tryz.ntmps75
  go_wp2_with (go_at_call 53; first | (refine (unhide HD _ hr1).mono ?_; rintro e w2 ⟨rfl, rfl⟩) | (refine (unhide HM).mono ?_; rintro e w1 ⟨rfl, hr1, hg1⟩))
  exact ⟨rfl, rfl, hg1⟩
set_option maxHeartbeats 400000 in
set_option maxRecDepth 100000 in
theorem offs_no3 {b count M d : Nat} {l l1 l2 : List UInt8} {w : World} (h : Rd w b l) (hl : l.length ≤ 140737488355328) (hM : numD 8 l = some (M, l1)) (hd : numD 1 l1 = some (d, l2)) (hd64 : 64 < d) :
    Calls Tryz.prog 75 #[.pointer (some ⟨b, 0, none⟩), .int .i64 count] w fun e w' => e = dmg ∧ Gr w w' b := by
  have HM := hide (numd_yes h hl hM (by decide))
  have hl1 := numD_le hM
  have HD := hide (fun W (hW : Rd W b l1) => numd_yes hW (by omega) hd (by decide))
  have hd2 : d < 256 := by
    obtain ⟨h1, rfl, rfl⟩ := numD_some hd
    have := beV_lt (l1.take 1)
    have h2 : (l1.take 1).length = 1 := by rw [List.length_take]; omega
    rw [h2] at this; simpa using this
  clear h
  go_enter Tryz.func75, Tryz.ntmps75
  go_wp2_with (first
    | (go_at_call 53; first | (refine (unhide HD _ hr1).mono ?_; rintro e w2 ⟨rfl, hr2, hg2⟩) | (refine (unhide HM).mono ?_; rintro e w1 ⟨rfl, hr1, hg1⟩))
    | (go_at_call 54; refine (ensureF _ (decide_eq_false (by omega)) _).mono ?_; rintro e w3 ⟨rfl, rfl⟩))
  exact ⟨rfl, rfl, hg1.trans hg2⟩
set_option maxHeartbeats 400000 in
set_option maxRecDepth 100000 in
theorem offs_no4 {b count M d : Nat} {l l1 l2 : List UInt8} {w : World} (hc : count ≤ 4096) (h : Rd w b l) (hl : l.length ≤ 140737488355328) (hM : numD 8 l = some (M, l1)) (hd : numD 1 l1 = some (d, l2)) (hd64 : d ≤ 64) (hb : bitsD count d l2 = none) :
    Calls Tryz.prog 75 #[.pointer (some ⟨b, 0, none⟩), .int .i64 count] w fun e w' => e = dmg ∧ Gr w w' b := by
  have HM := hide (numd_yes h hl hM (by decide))
  have hl1 := numD_le hM
  have hl2 := numD_le hd
  have HD := hide (fun W (hW : Rd W b l1) => numd_yes hW (by omega) hd (by decide))
  have HB := hide (fun W (hW : Rd W b l2) => bitsd_no hc hd64 hW (by omega) hb)
  have hdi : (d : Int) ≤ 64 := by omega
  clear h
  go_enter Tryz.func75, Tryz.ntmps75
  go_wp2_with (first
    | (go_at_call 53; first | (refine (unhide HD _ hr1).mono ?_; rintro e w2 ⟨rfl, hr2, hg2⟩) | (refine (unhide HM).mono ?_; rintro e w1 ⟨rfl, hr1, hg1⟩))
    | (go_at_call 54; refine (ensure_yes _).mono ?_; rintro e w3 ⟨rfl, rfl⟩)
    | (go_at_call 71; refine (unhide HB _ hr2).mono ?_; rintro e w4 ⟨rfl, hg4⟩))
  exact ⟨rfl, rfl, (hg1.trans hg2).trans hg4⟩
theorem offsets_any (b count : Nat) (l : List UInt8) (w : World) (hc : count ≤ 4096) (h : Rd w b l) (hl : l.length ≤ 140737488355328) :
    Calls Tryz.prog 75 #[.pointer (some ⟨b, 0, none⟩), .int .i64 count] w fun e w' => PlainsR w w' e b (offsetsD count l) := by
  have no : ∀ {o}, o = none → (Calls Tryz.prog 75 #[.pointer (some ⟨b, 0, none⟩), .int .i64 count] w fun e w' => e = dmg ∧ Gr w w' b) → Calls Tryz.prog 75 #[.pointer (some ⟨b, 0, none⟩), .int .i64 count] w fun e w' => PlainsR w w' e b o :=
    fun ho hcall => hcall.mono fun e w' ⟨he, hg⟩ => .inr ⟨ho, he, hg⟩
  cases hM : numD 8 l with
  | none => exact no (by unfold offsetsD; rw [hM]; rfl) (offs_no1 h hl hM)
  | some p =>
    obtain ⟨M, l1⟩ := p
    cases hd : numD 1 l1 with
    | none => exact no (by unfold offsetsD; rw [hM, Option.bind_some, hd]; rfl) (offs_no2 h hl hM hd)
    | some q =>
      obtain ⟨d, l2⟩ := q
      by_cases hd64 : d ≤ 64
      · cases hb : bitsD count d l2 with
        | none => exact no (by unfold offsetsD; rw [hM, Option.bind_some, hd, Option.bind_some, if_pos hd64, hb]; rfl) (offs_no4 hc h hl hM hd hd64 hb)
        | some q =>
          obtain ⟨t, r⟩ := q
          refine offs_loop hc h hl hM hd hd64 hb _ ?_
          show offsetsD count l = _
          unfold offsetsD; rw [hM, Option.bind_some, hd, Option.bind_some, if_pos hd64, hb]; rfl
      · exact no (by unfold offsetsD; rw [hM, Option.bind_some, hd, Option.bind_some, if_neg hd64]) (offs_no3 h hl hM hd (by omega))
set_option maxHeartbeats 400000 in
set_option maxRecDepth 100000 in
theorem bindex_any (g n : Nat) (F : Nat → Bool) (w : World) (hn : n ≤ 100000) (h : w.rowIs g 4 n (fun j => .bool (F j))) :
    Calls Tryz.prog 100 #[.slice (some ⟨g, 0, none⟩) n n, .bool false] w fun e w' => ∃ i : Int, e = .returned (.int .i64 i) ∧ Hid (decide (0 ≤ i) = !(List.range n).all F) ∧ w' = w := by
  have HR := hide h
  clear h
  go_enter Tryz.func100, Tryz.ntmps100
  go_wp2_with fail
  go_loop [8] (fun i => ∃ k : Nat, k ≤ n ∧ i = .int .i64 (k : Int) ∧ Hid (∀ j, j < k → F j = true)) (fun i => n - (intOf i).toNat)
  case atStart => exact ⟨0, Nat.zero_le _, rfl, fun j hj => by omega⟩
  case round =>
    obtain ⟨k, hk, rfl, HP⟩ := hrel
    by_cases hlt : k < n
    · have h9 : (k : Int) < (n : Int) := by omega
      have cm := (unhide HR).cell hlt
      cases hF : F k
      · rw [hF] at cm
        have HE : Hid (decide (0 ≤ (k : Int)) = !(List.range n).all F) := by
          show _ = _
          have : (List.range n).all F = false := by
            rw [List.all_eq_false]
            exact ⟨k, List.mem_range.2 hlt, by simp [hF]⟩
          rw [this]; simp
        clear hF
        go_wp2
        go_ret
        exact ⟨_, rfl, HE, rfl⟩
      · rw [hF] at cm
        have HP2 : Hid (∀ j, j < k + 1 → F j = true) := fun j hj => by
          by_cases e : j = k
          · rw [e]; exact hF
          · exact unhide HP j (by omega)
        clear hF
        go_wp2
        go_round
        case rel => exact ⟨k + 1, by omega, by go_num, HP2⟩
        case measure => simp [intOf]; omega
    · have h9 : ¬ (k : Int) < (n : Int) := by omega
      have HE : Hid (decide (0 ≤ (-1 : Int)) = !(List.range n).all F) := by
        show _ = _
        have : (List.range n).all F = true := by
          rw [List.all_eq_true]
          intro j hj
          exact unhide HP j (by have := List.mem_range.1 hj; omega)
        rw [this]; rfl
      go_wp2
      go_ret
      exact ⟨_, rfl, HE, rfl⟩
set_option maxHeartbeats 400000 in
set_option maxRecDepth 100000 in
theorem bcontains_any (g n : Nat) (F : Nat → Bool) (w : World) (hn : n ≤ 100000) (h : w.rowIs g 4 n (fun j => .bool (F j))) :
    Calls Tryz.prog 86 #[.slice (some ⟨g, 0, none⟩) n n, .bool false] w fun e w' => e = .returned (.bool (!(List.range n).all F)) ∧ w' = w := by
  have HI := hide (bindex_any g n F w hn h)
  generalize (!(List.range n).all F) = Z at HI ⊢
  clear h
  go_enter Tryz.func86, Tryz.ntmps86
  go_wp2_with (go_at_call 100; refine (unhide HI).mono ?_; rintro e w1 ⟨i, rfl, HE, rfl⟩)
  go_ret
  exact ⟨by rw [← unhide HE]; rfl, rfl⟩
end Go.Proofs.YtjnggnhgambmkaaGreat

import Derived.Test.YtbdkpkpncmagoaaGreatMmF
set_option linter.unusedSimpArgs false
set_option linter.unusedVariables false
set_option maxRecDepth 100000
namespace Go.Proofs.YtbdkpkpncmagoaaGreat
open Go.RowKit Go.Sort

set_option maxHeartbeats 4000000 in
theorem spoiltL {w : World} {base n : Nat} {S : Value} {ys : List Value} (ho : w.ownsRow base 2 1 S n ys) (hl : n ≤ 2097152) (x : Int) : Calls Tryz.prog 34 #[S, .int .i64 x] w fun e w' => e = .returned (.tuple #[]) ∧ w.grownBy w' S.ownBlock := by
  have HS0 := hide (SpS.start ho)
  obtain ⟨aS, cS, hS⟩ := own_slice ho
  subst hS
  clear ho
  have HAP := hide app_okL
  have HC1 : Hid (∀ (W : World) j u, [.int .i64 x][j]? = some u → (W.alloc (.cells #[.int .i64 x] 2)).cell? ((⟨W.heap.size, 0, none⟩ : Addr).add j) = some u) := fun W j u hu => by
    rw [Addr.add_lit]
    match j, hu with
    | 0, hu => simp at hu; subst hu; simp [go_sem]
    | j + 1, hu => simp at hu
  have HO1 : Hid (∀ u ∈ ([.int .i64 x] : List Value), u.oneCell' = true) := fun u hu => by simp at hu; subst hu; rfl
  go_enter Tryz.func34, Tryz.ntmps34
  go_wp2_with fail
  go_loopw [11] (fun s11 wr => ∃ i : Nat, s11 = .int .i64 (i : Int) ∧ i ≤ n ∧ Hid (SpS 2 1 w wr (.slice aS n cS) n)) (fun s _ => n - (intOf s).toNat)
  case atStart => exact ⟨0, rfl, Nat.zero_le _, HS0⟩
  case round =>
    obtain ⟨i, rfl, hin, HS⟩ := hrel
    clear HS0
    by_cases hi : i < n
    · obtain ⟨g, cap, hg⟩ := (unhide HS).some (by omega)
      injection hg with hg _ hcap
      subst hg hcap
      obtain ⟨ec, ez⟩ := (unhide HS).facts
      obtain ⟨y, e0⟩ := ec i (by omega)
      have z0 := ez i
      have HS2 := hide ((unhide HS).set (j := i) (.int .i64 x))
      have i1 : (i : Int) < (n : Int) := by omega
      clear ez ec
      go_wp2
      go_roundw
      case rel => exact ⟨i + 1, by go_num, by omega, HS2⟩
      case measure => simp [intOf]; omega
    · obtain rfl : i = n := by omega
      have HT0 := hide (SpT.self (unhide HS))
      go_wp2_with fail
      go_loopw [5, 6] (fun s5 s6 wq => ∃ (j : Nat) (T : Value), s5 = T ∧ s6 = .int .i64 (j : Int) ∧ j ≤ 20 ∧ Hid (SpS 2 1 w wq (.slice aS i cS) i) ∧ Hid (SpT 2 1 w wq (.slice aS i cS) i T (i + j))) (fun _ s _ => 20 - (intOf s).toNat)
      case atStart => exact ⟨0, _, rfl, rfl, Nat.zero_le _, HS, HT0⟩
      case round =>
        obtain ⟨j, T, rfl, rfl, hj, HQ, HT⟩ := hrel
        clear HS HT0
        obtain ⟨aT, cT, hT⟩ := (unhide HT).slice
        subst hT
        by_cases hj2 : j < 20
        · have hb : Below wr.heap.size wr (wr.alloc (.cells #[.int .i64 x] 2)) := below_alloc (Below.refl _ _) _
          obtain ⟨T', w', hrun, hQ', hT', _⟩ := SpT.app (c := 1) (unhide HAP) ((unhide HQ).later hb) ((unhide HT).later hb) 46 ⟨wr.heap.size, 0, none⟩ (m := 1) (ys := [.int .i64 x]) rfl (unhide HC1 wr) (unhide HO1) (by omega) (by omega)
          have HQ' := hide hQ'
          have HT' := hide hT'
          have i1 : (j : Int) < 20 := by omega
          clear hQ' hT' hb
          go_wp2_with (at_builtin; refine wpList_app_run rfl (.tmp 24) (.tmp 26) 46 rfl _ _ rfl rfl hrun ?_)
          go_roundw
          case rel => exact ⟨j + 1, T', rfl, by go_num, by omega, HQ', HT'⟩
          case measure => simp [intOf]; omega
        · have i1 : ¬ (j : Int) < 20 := by omega
          clear HT
          go_wp2_with fail
          go_loopw [7, 8] (fun s7 s8 wq => ∃ (j : Nat) (M : Value), M = s7 ∧ s8 = .int .i64 (j : Int) ∧ j ≤ 64 ∧ Hid (SpS 2 1 w wq (.slice aS i cS) i) ∧ Hid (Mm 2 1 w wq M j)) (fun _ s _ => 64 - (intOf s).toNat)
          case atStart => exact ⟨0, _, rfl, rfl, Nat.zero_le _, HQ, Mm.nil⟩
          case round =>
            obtain ⟨q, M, rfl, rfl, hq, HR, HM⟩ := hrel
            clear HQ i1
            obtain ⟨aM, cM, hMs⟩ := (unhide HM).slice
            subst hMs
            by_cases hq2 : q < 64
            · have hb : Below wr.heap.size wr (wr.alloc (.cells #[.int .i64 x] 2)) := below_alloc (Below.refl _ _) _
              obtain ⟨M', w', hrun, hR', hM'⟩ := Mm.step (c := 1) (unhide HAP) (unhide HR) (unhide HM) hb 46 ⟨wr.heap.size, 0, none⟩ (ys := [.int .i64 x]) rfl (unhide HC1 wr) (unhide HO1) (by omega)
              have HR' := hide hR'
              have HM' := hide hM'
              have i1 : (q : Int) < 64 := by omega
              clear hR' hM' hb
              go_wp2_with (at_builtin; refine wpList_app_run rfl (.tmp 32) (.tmp 34) 46 rfl _ _ rfl rfl hrun ?_)
              go_roundw
              case rel => exact ⟨q + 1, M', rfl, by go_num, by omega, HR', HM'⟩
              case measure => simp [intOf]; omega
            · obtain rfl : q = 64 := by omega
              obtain ⟨T', w', hrun, hF⟩ := Mm.last (M := .slice aM 64 cM) (unhide HAP) (unhide HR) (unhide HM) (by omega) 46 (by omega)
              have HF := hide hF
              clear hF
              go_wp2_with (at_builtin; refine wpList_app_run rfl (.tmp 36) (.tmp 37) 46 rfl _ _ rfl rfl hrun ?_)
              go_end0
              exact ⟨rfl, unhide HF⟩
end Go.Proofs.YtbdkpkpncmagoaaGreat
set_option linter.unusedSimpArgs false
set_option linter.unusedVariables false
set_option maxRecDepth 100000
namespace Go.Proofs.YtbdkpkpncmagoaaGreat
open Go.RowKit Go.Sort

set_option maxHeartbeats 4000000 in
theorem spoiltT {w : World} {base n : Nat} {S : Value} {ys : List Value} (ho : w.ownsRow base 9 1 S n ys) (hl : n ≤ 2097152) (x : ByteArray) : Calls Tryz.prog 35 #[S, .string x] w fun e w' => e = .returned (.tuple #[]) ∧ w.grownBy w' S.ownBlock := by
  have HS0 := hide (SpS.start ho)
  obtain ⟨aS, cS, hS⟩ := own_slice ho
  subst hS
  clear ho
  have HAP := hide app_okT
  have HC1 : Hid (∀ (W : World) j u, [.string x][j]? = some u → (W.alloc (.cells #[.string x] 9)).cell? ((⟨W.heap.size, 0, none⟩ : Addr).add j) = some u) := fun W j u hu => by
    rw [Addr.add_lit]
    match j, hu with
    | 0, hu => simp at hu; subst hu; simp [go_sem]
    | j + 1, hu => simp at hu
  have HO1 : Hid (∀ u ∈ ([.string x] : List Value), u.oneCell' = true) := fun u hu => by simp at hu; subst hu; rfl
  go_enter Tryz.func35, Tryz.ntmps35
  go_wp2_with fail
  go_loopw [11] (fun s11 wr => ∃ i : Nat, s11 = .int .i64 (i : Int) ∧ i ≤ n ∧ Hid (SpS 9 1 w wr (.slice aS n cS) n)) (fun s _ => n - (intOf s).toNat)
  case atStart => exact ⟨0, rfl, Nat.zero_le _, HS0⟩
  case round =>
    obtain ⟨i, rfl, hin, HS⟩ := hrel
    clear HS0
    by_cases hi : i < n
    · obtain ⟨g, cap, hg⟩ := (unhide HS).some (by omega)
      injection hg with hg _ hcap
      subst hg hcap
      obtain ⟨ec, ez⟩ := (unhide HS).facts
      obtain ⟨y, e0⟩ := ec i (by omega)
      have z0 := ez i
      have HS2 := hide ((unhide HS).set (j := i) (.string x))
      have i1 : (i : Int) < (n : Int) := by omega
      clear ez ec
      go_wp2
      go_roundw
      case rel => exact ⟨i + 1, by go_num, by omega, HS2⟩
      case measure => simp [intOf]; omega
    · obtain rfl : i = n := by omega
      have HT0 := hide (SpT.self (unhide HS))
      go_wp2_with fail
      go_loopw [5, 6] (fun s5 s6 wq => ∃ (j : Nat) (T : Value), s5 = T ∧ s6 = .int .i64 (j : Int) ∧ j ≤ 20 ∧ Hid (SpS 9 1 w wq (.slice aS i cS) i) ∧ Hid (SpT 9 1 w wq (.slice aS i cS) i T (i + j))) (fun _ s _ => 20 - (intOf s).toNat)
      case atStart => exact ⟨0, _, rfl, rfl, Nat.zero_le _, HS, HT0⟩
      case round =>
        obtain ⟨j, T, rfl, rfl, hj, HQ, HT⟩ := hrel
        clear HS HT0
        obtain ⟨aT, cT, hT⟩ := (unhide HT).slice
        subst hT
        by_cases hj2 : j < 20
        · have hb : Below wr.heap.size wr (wr.alloc (.cells #[.string x] 9)) := below_alloc (Below.refl _ _) _
          obtain ⟨T', w', hrun, hQ', hT', _⟩ := SpT.app (c := 1) (unhide HAP) ((unhide HQ).later hb) ((unhide HT).later hb) 47 ⟨wr.heap.size, 0, none⟩ (m := 1) (ys := [.string x]) rfl (unhide HC1 wr) (unhide HO1) (by omega) (by omega)
          have HQ' := hide hQ'
          have HT' := hide hT'
          have i1 : (j : Int) < 20 := by omega
          clear hQ' hT' hb
          go_wp2_with (at_builtin; refine wpList_app_run rfl (.tmp 24) (.tmp 26) 47 rfl _ _ rfl rfl hrun ?_)
          go_roundw
          case rel => exact ⟨j + 1, T', rfl, by go_num, by omega, HQ', HT'⟩
          case measure => simp [intOf]; omega
        · have i1 : ¬ (j : Int) < 20 := by omega
          clear HT
          go_wp2_with fail
          go_loopw [7, 8] (fun s7 s8 wq => ∃ (j : Nat) (M : Value), M = s7 ∧ s8 = .int .i64 (j : Int) ∧ j ≤ 64 ∧ Hid (SpS 9 1 w wq (.slice aS i cS) i) ∧ Hid (Mm 9 1 w wq M j)) (fun _ s _ => 64 - (intOf s).toNat)
          case atStart => exact ⟨0, _, rfl, rfl, Nat.zero_le _, HQ, Mm.nil⟩
          case round =>
            obtain ⟨q, M, rfl, rfl, hq, HR, HM⟩ := hrel
            clear HQ i1
            obtain ⟨aM, cM, hMs⟩ := (unhide HM).slice
            subst hMs
            by_cases hq2 : q < 64
            · have hb : Below wr.heap.size wr (wr.alloc (.cells #[.string x] 9)) := below_alloc (Below.refl _ _) _
              obtain ⟨M', w', hrun, hR', hM'⟩ := Mm.step (c := 1) (unhide HAP) (unhide HR) (unhide HM) hb 47 ⟨wr.heap.size, 0, none⟩ (ys := [.string x]) rfl (unhide HC1 wr) (unhide HO1) (by omega)
              have HR' := hide hR'
              have HM' := hide hM'
              have i1 : (q : Int) < 64 := by omega
              clear hR' hM' hb
              go_wp2_with (at_builtin; refine wpList_app_run rfl (.tmp 32) (.tmp 34) 47 rfl _ _ rfl rfl hrun ?_)
              go_roundw
              case rel => exact ⟨q + 1, M', rfl, by go_num, by omega, HR', HM'⟩
              case measure => simp [intOf]; omega
            · obtain rfl : q = 64 := by omega
              obtain ⟨T', w', hrun, hF⟩ := Mm.last (M := .slice aM 64 cM) (unhide HAP) (unhide HR) (unhide HM) (by omega) 47 (by omega)
              have HF := hide hF
              clear hF
              go_wp2_with (at_builtin; refine wpList_app_run rfl (.tmp 36) (.tmp 37) 47 rfl _ _ rfl rfl hrun ?_)
              go_end0
              exact ⟨rfl, unhide HF⟩
end Go.Proofs.YtbdkpkpncmagoaaGreat

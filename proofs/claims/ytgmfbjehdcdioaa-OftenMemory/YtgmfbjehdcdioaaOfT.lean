import Derived.Test.YtgmfbjehdcdioaaOfS
set_option linter.unusedSimpArgs false
set_option linter.unusedVariables false
set_option maxRecDepth 100000
namespace Go.Proofs.Ytgmfbjehdcdioaa
open Go.RowKit Go.Sort

def lenB (w : World) (b : Nat) : Nat := match w.cell? ⟨b, 4, none⟩ with | some (.slice _ n _) => n | _ => 0

set_option maxHeartbeats 2000000 in
theorem raise_any {w : World} {b k tot fl mb n0 : Nat} {S0 : Value} {E0 : Nat → Nat × Cn} {L0 : List (Vk × Nat)} (h : Of w b k tot fl mb S0 (n0 + 1) E0 L0) (hon : Once E0 (n0 + 1)) (hn : n0 ≤ 1999) :
    Calls Try.prog 38 #[.pointer (some ⟨b, 0, none⟩)] w fun e w' => e = .returned (.tuple #[]) ∧ RaA w b k tot (E0 0).2.hi mb S0 (n0 + 1) E0 w' := by
  obtain ⟨lb, cap, hS⟩ := h.qu.slice (by omega)
  obtain ⟨c0, c1, c2, c3, c4, f1, f2, f3, f4⟩ := h.facts
  have d0 := (h.qu.at hS (show 0 < n0 + 1 by omega)).1
  have d1 := h.qu.high (show 0 < n0 + 1 by omega)
  obtain ⟨p0, hp0⟩ : ∃ p0, (E0 0).1 = p0 := ⟨_, rfl⟩
  obtain ⟨f', hf'⟩ : ∃ f', (E0 0).2.hi = f' := ⟨_, rfl⟩
  have hput := h.put2 (f' := f')
  have HST : Hid (RaS w b k tot f' mb S0 (n0 + 1) E0 (w.setCell ⟨b, 2, none⟩ (.int .i64 f')) S0 (n0 + 1) E0 L0 []) := ⟨hput.1, by simp, by simp, fun i hi => by have := h.heap.least i hi; simp only [keyE] at this; omega, hon, hput.2, fun q hq => hq⟩
  rw [hp0] at d0 d1
  rw [hf'] at d1 ⊢
  rw [hS] at c4
  have hz : (0 : Int) < ((n0 + 1 : Nat) : Int) := by omega
  clear h hon hput hp0 hf'
  go_enter Try.func38, Try.ntmps38
  go_wp2_with fail
  go_loopw [14] (fun _ wr => ∃ (S : Value) (n : Nat) (E : Nat → Nat × Cn) (L : List (Vk × Nat)) (rem : List (Nat × Cn)), n ≤ n0 + 1 ∧ Hid (RaS w b k tot f' mb S0 (n0 + 1) E0 wr S n E L rem)) (fun _ wr => lenB wr b)
  case atStart => exact ⟨S0, n0 + 1, E0, L0, [], by omega, HST⟩
  case round =>
    obtain ⟨S, n, E, L, rem, hnn, HR⟩ := hrel
    obtain ⟨g0, g1, g2, g3, g4, _, _, _, _⟩ := (unhide HR).o.facts
    clear c0 c1 c2 c3 c4 d0 d1 f1 f2 f3 f4 HST hz hS
    cases n with
    | zero =>
      obtain ⟨a0, k0, hS⟩ : ∃ a0 k0, S = .slice a0 0 k0 := by
        rcases (unhide HR).o.qu.lst.2 with ⟨e, h0⟩ | ⟨g, cap, cur, he, _⟩
        · exact ⟨none, 0, e⟩
        · exact ⟨_, _, he⟩
      rw [hS] at g4
      go_upto_region 1 with fail
      have k4 := cell_regrown g4
      have k2 := cell_regrown g2
      refine wp_region_quiet_below (by kernel_rfl) (by kernel_rfl) ?_
      repeat (go_big_quiet_step (fail))
      refine wpQuiet_nil ?_
      intro w1 hw1
      have hB1 : Below wr.heap.size wr w1 := by obtain ⟨q, rfl⟩ := hw1; exact below_regrown _ _ _
      have HR1 := hide ((unhide HR).later hB1)
      clear hw1 hB1
      go_wp2
      go_end0
      exact ⟨rfl, (unhide HR1).done (.inl rfl)⟩
    | succ m =>
      obtain ⟨lb, cap, hS⟩ := (unhide HR).o.qu.slice (by omega)
      have d0 := ((unhide HR).o.qu.at hS (show 0 < m + 1 by omega)).1
      have d1 := (unhide HR).o.qu.high (show 0 < m + 1 by omega)
      obtain ⟨p, hp⟩ : ∃ p, (E 0).1 = p := ⟨_, rfl⟩
      obtain ⟨hh, hhh⟩ : ∃ hh, (E 0).2.hi = hh := ⟨_, rfl⟩
      rw [hp] at d0 d1
      rw [hhh] at d1
      rw [hS] at g4
      have hz : (0 : Int) < ((m + 1 : Nat) : Int) := by omega
      by_cases he : hh = f'
      · have he' : ((hh : Int) == (f' : Int)) = true := by simp [he]
        go_upto_region 1 with fail
        have k4 := cell_regrown g4
        have k2 := cell_regrown g2
        have k0 := cell_regrown d0
        have k1 := cell_regrown d1
        refine wp_region_quiet_below (by kernel_rfl) (by kernel_rfl) ?_
        repeat (go_big_quiet_step (fail))
        refine wpQuiet_nil ?_
        intro w1 hw1
        have hB1 : Below wr.heap.size wr w1 := by obtain ⟨q, rfl⟩ := hw1; exact below_regrown _ _ _
        have HR1 := hide ((unhide HR).later hB1)
        clear hw1 hB1
        clear k4 k2 k0 k1
        have hO := (unhide HR1).o
        obtain ⟨_, _, _, q3, q4, _, _, _, _⟩ := hO.facts
        rw [hS] at q4
        have e0 := (hO.qu.at hS (show 0 < m + 1 by omega)).1
        have hct := hO.qu.ctr 0 (show 0 < m + 1 by omega)
        have u0 := hct.cell (i := 0) (by omega)
        have u1 := hct.cell (i := 1) (by omega)
        have u2 := hct.cell (i := 2) (by omega)
        simp only [box6] at u0 u1 u2
        rw [hp] at e0 u0 u1 u2
        obtain ⟨j, hj⟩ := hO.top (unhide HR1).once (show 0 < m + 1 by omega)
        obtain ⟨o, hrun, hmap⟩ := del_old (W := w1.drew) (hO.later (Below.refl _ _).drew).map hj
        simp only [Vk.v, Cn.key] at hrun
        have HPOP : Hid (Calls Try.prog 55 #[.iface 82 (.pointer (some ⟨b, 4, none⟩))] (putO w1.drew mb o) fun e w' => (∃ v, e = .returned v) ∧ ∃ S' E' L', RaS w b k tot f' mb S0 (n0 + 1) E0 w' S' m E' L' (rem ++ [E 0])) := by
          have hOd := hO.later (Below.refl _ _).drew
          obtain ⟨n1, n2⟩ := hOd.mapne
          have hkp : Ky (fun q => q = mb) w1.drew (putO w1.drew mb o) := ky_putO _ _ _ rfl
          have hq2 : Qu (putO w1.drew mb o) b S (m + 1) E := hOd.qu.keep (putO_ne (Ne.symm n2)) fun q hq => putO_ne fun e => n1 (by rw [← e]; exact hq)
          refine (hpop_any hq2 hOd.heap (hOd.box.of_block (putO_ne (Ne.symm n2))) hOd.ne (by omega)).mono ?_
          rintro e w' ⟨rfl, S', E', r1, r2, r3, r4, r5, r6⟩
          obtain ⟨t1, t2⟩ := hOd.popped hj hmap hkp r1 r2 r3 r4 r5 r6
          have hR := unhide HR1
          refine ⟨⟨_, rfl⟩, S', E', _, ⟨t1, ?_, ?_, ?_, ?_, ?_, fun q hq => hR.sub q (r6 q hq)⟩⟩
          · have hp1 := hR.perm
            refine List.Perm.trans ?_ hp1
            have : (lisE E' m ++ (rem ++ [E 0])).Perm ((lisE E' m ++ [E 0]) ++ rem) := by
              rw [List.append_assoc]
              exact List.Perm.append_left _ List.perm_append_comm
            exact this.trans (r3.append_right _)
          · intro e he'
            rcases List.mem_append.1 he' with g | g
            · exact hR.gone e g
            · simp at g; rw [g, hhh]; exact he
          · intro i hi
            have hm : E' i ∈ lisE E (m + 1) := r3.mem_iff.1 (List.mem_append_left _ (List.mem_map.2 ⟨i, List.mem_range.2 hi, rfl⟩))
            obtain ⟨i', hi', e⟩ := List.mem_map.1 hm
            rw [← e]; exact hR.least i' (List.mem_range.1 hi')
          · rw [once_nodup]
            have h1 := once_nodup.1 hR.once
            have h2 := (r3.map fun e : Nat × Cn => e.2.key).nodup_iff.2 h1
            rw [List.map_append] at h2
            exact (List.nodup_append.1 h2).1
          · refine hR.ky.trans (Ky.trans (F := footO b mb S (m + 1) E) (Ky.of_below (Below.refl _ _).drew) t2 fun q hq => .inl hq) fun q hq => ?_
            rcases hq with hq | hq | hq
            · exact .inl (.inl hq)
            · exact .inl (.inr (.inl hq))
            · exact .inl (.inr (.inr (hR.sub q hq)))
        have HLB : Hid (lenB wr b = m + 1) := by show _ = _; unfold lenB; rw [g4]
        clear hO hct hj hmap he he'
        go_upto_region 2 with fail
        go_region_law (refine step_del_run rfl _ _ rfl (.map (some mb)) (.agg #[.int .i64 (E 0).2.k, .int .i64 (E 0).2.n, .string (E 0).2.s]) (by simp [Act.eval, Act.put]) (by simp [Act.eval, Act.put]) (hrun _) ?_)
        all_goals
          go_wp2_with (go_at_call 55; refine (unhide HPOP).mono ?_; rintro e w3 ⟨⟨v, rfl⟩, S', E', L', HR3⟩; replace HR3 := hide HR3)
          go_roundw
          case rel => exact ⟨S', m, E', L', _, by omega, HR3⟩
          case measure =>
            have h1 := unhide HLB
            have h2 := (unhide HR3).o.qu.cell
            have h3 : lenB w3 b = m := by
              unfold lenB; rw [h2]
              rcases (unhide HR3).o.qu.lst.2 with ⟨e, h0⟩ | ⟨g, cap, cur, e, _⟩
              · rw [e]; exact h0.symm
              · rw [e]
            rw [h3, h1]; omega
      · have he' : ((hh : Int) == (f' : Int)) = false := by simp; omega
        have HN : Hid ((E 0).2.hi ≠ f') := by rw [hhh]; exact he
        go_upto_region 1 with fail
        have k4 := cell_regrown g4
        have k2 := cell_regrown g2
        have k0 := cell_regrown d0
        have k1 := cell_regrown d1
        refine wp_region_quiet_below (by kernel_rfl) (by kernel_rfl) ?_
        repeat (go_big_quiet_step (fail))
        refine wpQuiet_nil ?_
        intro w1 hw1
        have hB1 : Below wr.heap.size wr w1 := by obtain ⟨q, rfl⟩ := hw1; exact below_regrown _ _ _
        have HR1 := hide ((unhide HR).later hB1)
        clear hw1 hB1
        clear k4 k2 k0 k1
        go_wp2
        go_end0
        exact ⟨rfl, (unhide HR1).done (.inr (unhide HN))⟩
end Go.Proofs.Ytgmfbjehdcdioaa

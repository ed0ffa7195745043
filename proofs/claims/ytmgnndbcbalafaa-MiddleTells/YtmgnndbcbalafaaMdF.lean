import Derived.Test.YtmgnndbcbalafaaMdE
set_option linter.unusedSimpArgs false
set_option linter.unusedVariables false
namespace Go.Proofs.Ytmgnndbcbalafaa
open Go.RowKit Go.Sort

theorem lenAt_of {w : World} {b n c : Nat} {a : Option Addr} (h : w.cell? ⟨b, 3, none⟩ = some (.slice a n c)) : lenAt w b = n := by simp [lenAt, h]

theorem Mid.laid {w w5 : World} {b c tot sl i lb cap k1 c5 : Nat} {a1 a5 : Option Addr} {Ls : List Value} {lv : Nat → List Int} {zs : List Int} (h : Mid w b c tot sl (.slice (some ⟨lb, 0, none⟩) Ls.length cap) Ls lv) (hs : Ls[i]? = some (.slice a1 (lv i).length k1))
    (ho : w5.ownsRow 0 2 1 (.slice a5 zs.length c5) zs.length (ints zs)) (hg : w.grownBy w5 (Value.slice a1 (lv i).length k1).ownBlock) (hat : (Value.slice a5 zs.length c5).ownBlock = (Value.slice a1 (lv i).length k1).ownBlock ∨ (Value.slice a5 zs.length c5).ownBlock = some w.heap.size) :
    w5.cell? ⟨b, 3, none⟩ = some (.slice (some ⟨lb, 0, none⟩) Ls.length cap) ∧ w5.cell? ⟨lb, i, none⟩ = some (.slice a1 (lv i).length k1) ∧ w5.frozen? ⟨lb, i, none⟩ = false ∧
    Hid (Now w (w5.setCell ⟨lb, i, none⟩ (.slice a5 zs.length c5)) (foot b (.slice (some ⟨lb, 0, none⟩) Ls.length cap) Ls) b c tot sl (.slice (some ⟨lb, 0, none⟩) Ls.length cap) (Ls.set i (.slice a5 zs.length c5)) (up lv i zs)) := by
  have hat' : (Value.slice a5 zs.length c5).ownBlock = (Value.slice a1 (lv i).length k1).ownBlock ∨ ∃ k, (Value.slice a5 zs.length c5).ownBlock = some k ∧ w.heap.size ≤ k := hat.imp id fun e => ⟨_, e, Nat.le_refl _⟩
  have h1 := h.level (w1 := w5) rfl hs ho hg hat'
  have hb := rowIs_grown h.box hg (h.boxL hs)
  have hl := own_keep h.lst (w1 := w5) fun g hg' => hg.block g (h.lst.lt g hg').2 (fun e => h.lstL hs (by rw [hg', e]))
  exact ⟨hb.cell (i := 3) (by omega), own_cell hl hs, own_frozen hl _, h1.1, h1.2, foot_level hs hat'⟩

set_option maxHeartbeats 4000000 in
set_option maxRecDepth 100000 in
/-- lay. -/
theorem lay_any (w : World) (b c tot sl i : Nat) (S : Value) (Ls : List Value) (lv : Nat → List Int) (hM : Mid w b c tot sl S Ls lv) (hi : i ≤ 62) (hL : Ls.length ≤ 62)
    (a : Option Addr) (ca : Nat) (ms : List Int) (hm : NumAt w a ms) (hn : a = none → ms = [] ∧ ca = 0) (hl : (lv i).length + ms.length ≤ 1048576) (ha : ∀ ad, a = some ad → ad.block ≠ b ∧ S.ownBlock ≠ some ad.block) :
    Calls Try.prog 9 #[.pointer (some ⟨b, 0, none⟩), .int .i64 i, .slice a ms.length ca] w fun e w' => e = .returned (.tuple #[]) ∧
      ∃ S' Ls', Ls'.length = max Ls.length (i + 1) ∧ (i < Ls.length → S' = S) ∧ Now w w' (foot b S Ls) b c tot sl S' Ls' (up lv i (srt (lv i ++ ms))) := by
  obtain ⟨i2, hi2, z20, z21, z22⟩ := info_parts Try.info23
  obtain ⟨ZS, hZS⟩ : ∃ ZS, lv i ++ ms = ZS := ⟨_, rfl⟩
  rw [hZS]
  have HZL : Hid (ZS.length ≤ 1048576) := by show _ ≤ _; rw [← hZS, List.length_append]; exact hl
  have HZS := hide hZS
  clear hZS
  have hST := Now.start hM
  have HF := hide hST
  have HNUM : Hid (∀ W, (∀ k, k ≠ b → S.ownBlock ≠ some k → k < w.heap.size → W.heap[k]? = w.heap[k]?) → NumAt W a ms) := fun W hW => by
    rcases hm with e | ⟨g, off, e, hc⟩
    · exact .inl e
    · refine .inr ⟨g, off, e, fun j x hx => ?_⟩
      have h1 := hc j x hx
      have hlt := World.block_lt_of_cell? _ _ h1
      have := ha _ e
      rw [← h1]; unfold World.cell?; rw [hW g this.1 this.2 hlt]
  clear hm ha
  go_enter Try.func9, Try.ntmps9
  go_wp2_with fail
  go_loopw [6] (fun _ wr => ∃ S' Ls', Hid (Now w wr (foot b S Ls) b c tot sl S' Ls' lv ∧ Ls.length ≤ Ls'.length ∧ Ls'.length ≤ max Ls.length (i + 1) ∧ (∀ k, k ≠ b → S.ownBlock ≠ some k → k < w.heap.size → wr.heap[k]? = w.heap[k]?) ∧ (S'.ownBlock = S.ownBlock ∨ ∃ k, S'.ownBlock = some k ∧ w.heap.size ≤ k) ∧ (i < Ls.length → S' = S))) (fun _ wr => i + 1 - lenAt wr b)
  case atStart => exact ⟨S, Ls, hST, by omega, by omega, fun _ _ _ _ => rfl, .inl rfl, fun _ => rfl⟩
  case round =>
    obtain ⟨S', Ls', HR⟩ := hrel
    obtain ⟨lb, cap, rfl⟩ := (unhide HR).1.1.slice
    obtain ⟨c0, c1, c2, c3, f0, f1, f2, f3⟩ := (unhide HR).1.1.facts
    have hlen : lenAt wr b = Ls'.length := lenAt_of c3
    have HLEN := hide hlen
    clear hlen hST
    by_cases hlt : Ls'.length ≤ i
    · have h1 : (Ls'.length : Int) ≤ (i : Int) := by omega
      have HLI := hide hlt
      clear hlt
      go_wp2_with (at_builtin; refine wpList_append_own_at _ rfl (.tmp 17) (.tmp 18) 39 rfl 0 23 i2 (.slice none 0 0) 1 24 Try.underlying39 hi2 z20 z21 z22 rfl (by decide) _ _ _ rfl (World.ownsRow.alloc (unhide HR).1.1.lst _) ⟨wr.heap.size, 0, none⟩ 1 1 [.slice none 0 0] rfl rfl (cell_one_new _ _ _) (by intro u hu; simp at hu; subst hu; rfl) (by have := unhide HLI; unfold maxLen; omega) (by have := unhide HLI; omega) (Nat.zero_le _) ?_; intro v5 w5 hown5 hgrow5 _ hat5; have HG5 := hide hgrow5; have HA5 := hide hat5; obtain ⟨g5, cap5, rfl, d3, e3, HN⟩ := (unhide HR).1.1.app hown5 hgrow5 hat5; clear hown5 hgrow5 hat5)
      go_roundw
      case rel =>
        have hR := unhide HR
        have hsz := hR.1.2.1.size
        refine ⟨_, _, hR.1.step (unhide HN), by simp; omega, by simp; have := unhide HLI; omega, fun k hk1 hk2 hk3 => ?_, ?_, fun hii => by have := unhide HLI; omega⟩
        · have hg := unhide HG5
          have k1 : k < wr.heap.size := by omega
          have hne : some k ≠ Value.ownBlock (.slice (some ⟨lb, 0, none⟩) Ls'.length cap) := by
            rcases hR.2.2.2.2.1 with e | ⟨q, e, hq⟩
            · rw [e]; exact fun e' => hk2 e'.symm
            · rw [e]; intro e'; cases e'; omega
          rw [Below.heap_setCell _ _ _ _ hk1, hg.block k (by simp; omega) hne]
          have : (wr.alloc (.cells #[Value.slice none 0 0] 23)).heap[k]? = wr.heap[k]? := (below_alloc (Below.refl _ _) _).block k k1
          rw [this]; exact hR.2.2.2.1 k hk1 hk2 hk3
        · rcases unhide HA5 with e | e
          · rw [e]; exact hR.2.2.2.2.1
          · exact .inr ⟨_, e, by simp; omega⟩
      case measure =>
        have h0 := unhide HLEN
        have h2 := unhide HLI
        obtain ⟨_, _, _, q3, _⟩ := (unhide HN).1.facts
        rw [lenAt_of q3, h0]; omega
    · have h1 : ¬ (Ls'.length : Int) ≤ (i : Int) := by omega
      have hlen : Ls'.length = max Ls.length (i + 1) := by have := (unhide HR).2; omega
      have HLEN' := hide hlen
      have hlt' : i < Ls'.length := by omega
      have h2 : (i : Int) < (Ls'.length : Int) := by omega
      obtain ⟨s, hs⟩ : ∃ s, Ls'[i]? = some s := ⟨_, List.getElem?_eq_getElem hlt'⟩
      have hR := unhide HR
      have hD := hR.1.1.later (Below.refl _ wr).drew
      have HMS : Hid (NumAt wr.drew a ms) := unhide HNUM _ hR.2.2.2.1
      have c4 := own_cell hR.1.1.lst hs
      obtain ⟨a1, k1, rfl, _⟩ := num_of_own (hR.1.1.own i s hs)
      have S1 : wr.cell? ⟨b, 3, none⟩ = some (.slice (some ⟨lb, 0, none⟩) Ls'.length cap) ∧ wr.cell? ⟨lb, i, none⟩ = some (.slice a1 (lv i).length k1) := ⟨c3, c4⟩
      have HD := hide hD
      have HS := hide hs
      clear hlen hlt' hlt hR hD hs f0 f1 f2 f3 c0 c1 c2
      go_upto_region 2 with fail
      go_cut [0] (fun s0 wc => s0 = .pointer (some ⟨b, 0, none⟩) ∧ ∃ a5 c5, Hid (Now w wc (foot b S Ls) b c tot sl (.slice (some ⟨lb, 0, none⟩) Ls'.length cap) (Ls'.set i (.slice a5 ZS.length c5)) (up lv i ZS)))
      case first =>
        obtain ⟨b3, b4⟩ := S1
        go_region_law (refine step_app_any (by rfl) (.tmp 33) (.tmp 34) (by rfl) (.slice a1 (lv i).length k1) (lv i) (by rfl) ((unhide HD).own i _ (unhide HS)) a ca ms (by rfl) (unhide HMS) hn hl ZS (unhide HZS) ?_; intro a5 c5 w5 ho5 hg5 hat5; obtain ⟨q1, q2, q3, HN⟩ := Mid.laid (unhide HD) (unhide HS) ho5 hg5 hat5; clear ho5 hg5 hat5)
        all_goals
          go_wp2
          go_meet
          refine ⟨rfl, a5, c5, ?_⟩
          have hR := unhide HR
          exact (hR.1.below (Below.refl _ wr).drew).step (unhide HN)
      case rest =>
        obtain ⟨rfl, a5, c5, HT⟩ := hcut
        have hT := unhide HT
        obtain ⟨_, _, _, c3, _, _, _, _⟩ := hT.1.facts
        have hlt : i < Ls'.length := by omega
        have hs5 : (Ls'.set i (.slice a5 ZS.length c5))[i]? = some (.slice a5 ZS.length c5) := List.getElem?_set_self hlt
        have hl5 := hT.1.lst
        rw [List.length_set] at hl5
        have c4 := own_cell hl5 hs5
        have ho5 := hT.1.own i _ hs5
        rw [up_same] at ho5
        have HSO := hide (sort_any _ _ wc ho5 (unhide HZL))
        have HS5 := hide hs5
        clear hl5 ho5 hT hs5 hlt
        go_wp2_with (go_at_call 17; refine (unhide HSO).mono ?_; rintro e w2 ⟨rfl, ho2, hg2⟩; replace ho2 := hide ho2; replace hg2 := hide hg2)
        go_end0
        refine ⟨rfl, .slice (some ⟨lb, 0, none⟩) Ls'.length cap, Ls'.set i (.slice a5 ZS.length c5), ?_, (unhide HR).2.2.2.2.2, ?_⟩
        rotate_left
        · have hT := unhide HT
          have ho := unhide ho2
          have h3 := hT.1.change (unhide HS5) (zs := srt ZS) (by rw [srt_len]; exact ho) (unhide hg2)
          rw [up_up] at h3
          exact hT.step ⟨h3.1, h3.2, fun k hk => .inl hk⟩
        · rw [List.length_set]; exact unhide HLEN'
end Go.Proofs.Ytmgnndbcbalafaa

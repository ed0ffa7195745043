import Derived.Test.YtcbenpodohjbiaaGreatSqE
set_option linter.unusedSimpArgs false
set_option linter.unusedVariables false
set_option maxRecDepth 100000
namespace Go.Proofs.YtcbenpodohjbiaaGreat
open Go.RowKit Go.Sort

/-- What open answers. -/
def OpenP (w : World) (b y m mg B : Nat) (ks : List (Int × Bool)) (Y : Yv) (op : Option Nat) (ids : List Nat) (F : Nat → Prop) (e : Ending) (w' : World) : Prop :=
  ∃ (Y' : Yv) (L : List Hd) (c : Int), e = .returned (.int .i64 c) ∧ Mo w w' b y m mg B ks Y' op L F ∧
    ((c = 0 ∧ Hp ks 0 L ∧ ∃ L0, L.Perm L0 ∧ Opn ids L0 Y Y') ∨ (c = Y.cd ∧ ∃ k L0 Yk, k < ids.length ∧ Opn (ids.take k) L0 Y Yk ∧ Yk.hit = true ∧ Y' = Yk.tick))
theorem Mw.settled {F : Nat → Prop} {w w' : World} {b y m mg B : Nat} {ks : List (Int × Bool)} {Y : Yv} {op : Option Nat} {L L' : List Hd} {F0 : Nat → Prop} {vH : Value} (h1 : ¬ F y) (h2 : F mg) (h3 : ∀ k, F0 k → F k) (h4 : ¬ F0 mg) (h5 : ∀ g, vH.ownBlock = some g → F g ∧ ¬ F0 g) (h6 : Yw w b y m Y op F0) (h7 : Mx w mg y B vH) (h8 : OwnH w vH L) (h9 : OrdF w B ks) (hH : OwnH w' vH L') (hK : Ky (fun k => vH.ownBlock = some k) w w') : Mw w' b y m mg B ks Y op L' F :=
  ⟨h1, h2, F0, vH, h3, h4, h5, h6.ky hK (fun k e => (h5 k e).2) (fun e => (own_tg h8.1 e).ne h6.tgy (by decide) rfl), h7.ky hK (fun e => (own_tg h8.1 e).ne h7.tg (by decide) rfl), hH, h9.ky hK⟩

set_option maxHeartbeats 8000000 in
/-- open (66). -/
theorem open_any {F : Nat → Prop} {w : World} {b y m mg B : Nat} {ks : List (Int × Bool)} {Y : Yv} {op : Option Nat} {a : Option Addr} {c : Nat} {ids : List Nat} (h : Mw w b y m mg B ks Y op [] F) (hids : IdsK w F a ids) (hnd : ids.Nodup) (hn : ids.length ≤ 65536) (hrl : Y.runs.length ≤ 1048576) (g0 : 0 ≤ Y.held) (g1 : Y.held + ids.length ≤ 1048576) (hrd : Y.rd = false) (hcd : Y.cd ≠ 0) (hth : ∀ i ∈ ids, Y.there[i]? = some true ∧ op ≠ some i ∧ ∃ x rs, Y.runs[i]? = some (x :: rs)) :
    Calls Tryz.prog 66 #[.pointer (some ⟨mg, 0, none⟩), .slice a ids.length c] w fun e w' => OpenP w b y m mg B ks Y op ids F e w' := by
  have H0 : Hid (OI w w b y m mg B ks Y op a ids F 0 [] Y F) := ⟨Nw.refl _ _, fun _ q => q, h, Ky.refl _ _, hids, Opn.start hrd⟩
  have HTH := hide hth
  have HND := hide hnd
  clear h hids hth hnd
  go_enter Tryz.func66, Tryz.ntmps66
  go_wp2_with fail
  go_loopw [14, 4] (fun s14 s4 wr => ∃ (k : Nat) (L : List Hd) (Yk : Yv) (F1 : Nat → Prop), k ≤ ids.length ∧ s14 = .int .i64 (k : Int) ∧ s4 = .int .i64 0 ∧ Hid (OI w wr b y m mg B ks Y op a ids F k L Yk F1)) (fun s14 _ _ => ids.length - (intOf s14).toNat)
  case atStart => exact ⟨0, [], Y, F, Nat.zero_le _, rfl, rfl, H0⟩
  case round =>
    obtain ⟨k, L, Yk, F1, hk, rfl, rfl, HI⟩ := hrel
    have hI := unhide HI
    have hlen : L.length = k := by
      have := congrArg List.length hI.opn.hids
      rw [List.length_map, List.length_take] at this
      omega
    by_cases hlt : k < ids.length
    · have h9 : (k : Int) < (ids.length : Int) := by omega
      obtain ⟨i, hx⟩ : ∃ i, ids[k]? = some i := ⟨_, List.getElem?_eq_getElem hlt⟩
      obtain ⟨bI, oI, ea, _, _, hcell⟩ : ∃ b off, a = some ⟨b, off, none⟩ ∧ Tg 3 wr b ∧ ¬ F1 b ∧ ∀ (i : Nat) (x : Nat), ids[i]? = some x → wr.cell? ⟨b, off + i, none⟩ = some (.int .i64 (x : Nat)) := by
        rcases hI.hid with e | e
        · rw [e] at hx; cases hx
        · exact e
      subst ea
      have cI := hcell k i hx
      obtain ⟨t1, t2, x, rs, t3⟩ := unhide HTH i (List.mem_of_getElem? hx)
      have hni : i ∉ ids.take k := fun q => by
        obtain ⟨j, hj⟩ := List.getElem?_of_mem q
        have hjk : j < k := by have := (List.getElem?_eq_some_iff.1 hj).1; rw [List.length_take] at this; omega
        rw [List.getElem?_take, if_pos hjk] at hj
        have := (List.getElem?_inj (by omega) (unhide HND)).1 (hj.trans hx.symm)
        omega
      have t1' : Yk.there[i]? = some true := by rw [hI.opn.there]; exact t1
      have t3' : Yk.runs[i]? = some (x :: rs) := by rw [hI.opn.oth i hni]; exact t3
      obtain ⟨h1, h2, F0, vH, h3, h4, h5, h6, h7, h8, h9'⟩ := hI.mw
      have c0 := h7.c0
      have hcd1 : Yk.cd ≠ 0 := by rw [hI.opn.cd]; exact hcd
      have hheld : Yk.held = Y.held + k := by rw [hI.opn.held, List.length_take, Nat.min_eq_left hk]
      cases hit : Yk.hit
      · have HC := hide (ynext_row h6 t2 t1' t3' (by rw [hI.opn.len]; exact hrl) (by omega) (by omega) hI.opn.rd hit)
        have HIT := hide hit
        obtain ⟨aH, cH, rfl⟩ : ∃ aH cH, vH = .slice aH L.length cH := by
          rcases h8.1.2 with ⟨rfl, h0⟩ | ⟨g, cap, cur, rfl, _⟩
          · exact ⟨none, 0, by rw [h0]⟩
          · exact ⟨_, _, rfl⟩
        have HLL : Hid (L.length + 1 ≤ 4194304) := by show _ ≤ _; omega
        have HM1 : Hid (∀ w1, Ky F0 wr w1 → Mx w1 mg y B (.slice aH L.length cH) ∧ OwnH w1 (.slice aH L.length cH) L) := fun w1 q => ⟨h7.ky q h4, h8.ky q (fun g e => (h5 g e).2)⟩
        have HPU : Hid (∀ (w1 w2 : World) (F2 : Nat → Prop) (vH' : Value) (z : Hd), Nw F0 F2 wr → Yw w1 b y m ((Yk.tick.read i rs).hold 1) op F2 → Ky F0 wr w1 → Below w1.heap.size w1 (w1.alloc (.cells #[z.u, .int .i64 (i : Nat)] 120)) → OwnH w2 vH' (L ++ [z]) → Grew (w1.alloc (.cells #[z.u, .int .i64 (i : Nat)] 120)) w2 (.slice aH L.length cH) vH' → Ky (fun k => (Value.slice aH L.length cH).ownBlock = some k) (w1.alloc (.cells #[z.u, .int .i64 (i : Nat)] 120)) w2 → Mo wr (w2.setCell ⟨mg, 2, none⟩ vH') b y m mg B ks ((Yk.tick.read i rs).hold 1) op (L ++ [z]) F1) := fun w1 w2 F2 vH' z q1 q2 q3 q4 q5 q6 q7 =>
          Mw.push h1 h2 h3 h4 h5 h7 h8 h9' (F1 := fun k => F2 k ∧ k < w1.heap.size) (fun k e => q1 k e.1) q2.cut q3 (fun k e => e.2) q4 q5 q6 q7
        have HT3 := hide t3
        have HNI := hide hni
        have HXX := hide hx
        have nmH : ¬ (Value.slice aH L.length cH).ownBlock = some mg := fun e => (own_tg h8.1 e).ne h7.tg (by decide) rfl
        clear h3 h5 h6 h7 h8 h9' hit hcell t1 t1' t3 t3' hI hheld hni hx hlen
        go_wp2_with (first
          | (go_at_call 99; refine (unhide HC).mono ?_; rintro _ w1 ⟨v1, rfl, ⟨a1, c1, rfl, hq1, hl1⟩, F2, n2, m2, a3, a4⟩; have mq := unhide HM1 w1 a4; have mc := mq.1.c2; have HA := hide (below_alloc (Below.refl _ w1) (.cells #[.slice a1 (cleanR x).length c1, .int .i64 (i : Nat)] 120)); have HMQ := hide mq; have HRW : Hid (Rw (w1.alloc (.cells #[.slice a1 (cleanR x).length c1, .int .i64 (i : Nat)] 120)) (.slice a1 (cleanR x).length c1) (cleanR x)) := ⟨a1, c1, rfl, hq1.later (unhide HA), hl1⟩; have HN2 := hide n2; have HA3 := hide a3; have HA4 := hide a4; clear mq hq1 n2 m2 a3 a4)
          | (at_builtin; refine wpList_push_head (w1.alloc (.cells #[.slice a1 (cleanR x).length c1, .int .i64 (i : Nat)] 120)) rfl (.tmp 36) (.tmp 40) rfl (.slice aH L.length cH) L ⟨.slice a1 (cleanR x).length c1, cleanR x, i⟩ rfl ((unhide HMQ).2.later (unhide HA)) w1.heap.size rfl (by simp [go_sem]) (by simp [go_sem]) (unhide HRW) (unhide HLL) ?_; intro vH2 w2 hH2 gH2 kH2; obtain ⟨aN, cN, eN⟩ := own_form hH2.1; rw [List.length_append] at eN; change vH2 = .slice aN (L.length + 1) cN at eN; subst eN; have hM2 := ((unhide HMQ).1.later (unhide HA)).ky kH2 nmH; have r2 := hM2.c2; have rf2 := hM2.fr 2; have HMO := hide (unhide HPU w1 w2 F2 (.slice aN (L.length + 1) cN) ⟨.slice a1 (cleanR x).length c1, cleanR x, i⟩ (unhide HN2) (unhide HA3) (unhide HA4) (unhide HA) hH2 gH2 kH2); clear hH2 gH2 kH2 hM2))
        go_roundw
        case rel =>
          have hI := unhide HI
          obtain ⟨F3, b1, b2, b3, b4⟩ := unhide HMO
          refine ⟨k + 1, L ++ [⟨.slice a1 (cleanR x).length c1, cleanR x, i⟩], (Yk.tick.read i rs).hold 1, F3, by omega, by go_num, rfl, hI.nw.trans b1 hI.ky.size, fun j e => b2 j (hI.mono j e), b3, hI.ky.trans b4 hI.nw, hI.hid.ky b4 (fun j e => .inl e) b1, ?_⟩
          have := hI.opn.more (unhide HNI) (unhide HT3) (unhide HIT) (.slice a1 (cleanR x).length c1)
          rw [List.take_add_one, unhide HXX]
          exact this
        case measure => simp [intOf]; omega
      · have HC := hide (ynext_hit (i : Nat) h6 hI.opn.rd hit hcd1)
        have hcd' : (Yk.cd != 0) = true := by simpa using hcd1
        have HIT := hide hit
        have HF : Hid (∀ w', Yo wr w' b y m Yk.tick op F0 → Mo w w' b y m mg B ks Yk.tick op L F) := fun w' hY => by
          obtain ⟨F2, b1, b2, b3, b4⟩ := Mw.under h1 h2 h3 h4 h5 h7 h8 h9' hY
          exact ⟨F2, hI.nw.trans b1 hI.ky.size, fun j e => b2 j (hI.mono j e), b3, hI.ky.trans b4 hI.nw⟩
        clear h3 h5 h6 h7 h8 h9' hit hcell t1 t1' t3 t3' hI hheld hni hx
        go_wp2_with (first | (go_at_call 99; refine (unhide HC).mono ?_; rintro _ w1 ⟨rfl, hY⟩))
        go_ret
        exact ⟨Yk.tick, L, Yk.cd, rfl, unhide HF _ hY, .inr ⟨(unhide HI).opn.cd, k, L, Yk, hlt, (unhide HI).opn, unhide HIT, rfl⟩⟩
    · have h9 : ¬ (k : Int) < (ids.length : Int) := by omega
      have hke : k = ids.length := by omega
      obtain ⟨h1, h2, F0, vH, h3, h4, h5, h6, h7, h8, h9'⟩ := hI.mw
      obtain ⟨aH, cH, rfl⟩ : ∃ aH cH, vH = .slice aH L.length cH := by
        rcases h8.1.2 with ⟨rfl, h0⟩ | ⟨g, cap, cur, rfl, _⟩
        · exact ⟨none, 0, by rw [h0]⟩
        · exact ⟨_, _, rfl⟩
      rw [hlen] at h5 h7 h8
      have m2 := h7.c2
      have eq2 : IntKind.i64.wrap ((k : Int).tdiv 2) = ((k / 2 : Nat) : Int) := by rw [IntWalk.i64_quo _ _ (by omega)]; omega
      have ew : IntKind.i64.wrap (((k / 2 : Nat) : Int) - 1) = ((k / 2 : Nat) : Int) - 1 := IntWalk.i64_in _ (by omega)
      have HD : Hid (∃ L', L'.Perm L ∧ Hp ks (k / 2) L' ∧ Mw wr b y m mg B ks Yk op L' F1 ∧ Ky F1 wr wr) := ⟨L, List.Perm.refl _, fun j c q1 q2 q3 => by omega, hI.mw, Ky.refl _ _⟩
      have HLEN := hide hlen
      have HKE := hide hke
      rename World => wa
      clear h3 h5 h6 h7 h8 h9' hI hlen hke
      go_wp2_with fail
      go_loopw [11] (fun s11 wx => ∃ (j : Nat), j ≤ k / 2 ∧ s11 = .int .i64 ((j : Int) - 1) ∧ Hid (∃ L', L'.Perm L ∧ Hp ks j L' ∧ Mw wx b y m mg B ks Yk op L' F1 ∧ Ky F1 wa wx)) (fun s11 _ => ((intOf s11) + 1).toNat)
      case atStart => exact ⟨k / 2, Nat.le_refl _, rfl, HD⟩
      case round =>
        obtain ⟨j, hj, rfl, HE⟩ := hrel
        by_cases hj0 : j = 0
        · subst hj0
          go_wp2
          go_ret
          have hI := unhide HI
          obtain ⟨L', p1, p2, p3, p4⟩ := unhide HE
          have o := hI.opn
          rw [unhide HKE, List.take_length] at o
          exact ⟨Yk, L', 0, rfl, ⟨F1, hI.nw, hI.mono, p3, hI.ky.trans p4 hI.nw⟩, .inl ⟨rfl, p2, L, p1, o⟩⟩
        · obtain ⟨j', rfl⟩ : ∃ j', j = j' + 1 := ⟨j - 1, by omega⟩
          obtain ⟨L', p1, p2, p3, p4⟩ := unhide HE
          have hl' : L'.length = k := by rw [p1.length_eq]; exact unhide HLEN
          obtain ⟨q1, q2, G0, vG, q3, q4, q5, q6, q7, q8, q9⟩ := p3
          have HS := hide (settle_any (i := j') q7 q8 q9 (by omega) (by omega) p2)
          have ej : (((j' + 1 : Nat) : Int) - 1) = (j' : Int) := by omega
          have jge : (0 : Int) ≤ (j' : Int) := by omega
          have HQ : Hid (∀ w' L'', OwnH w' vG L'' → Ky (fun k => vG.ownBlock = some k) wr w' → Mw w' b y m mg B ks Yk op L'' F1 ∧ Ky F1 wa w') := fun w' L'' r1 r2 => ⟨Mw.settled q1 q2 q3 q4 q5 q6 q7 q8 q9 r1 r2, p4.trans (r2.mono (G := F1) fun k e => (q5 k e).1) (Nw.refl _ _)⟩
          have HP1 := hide p1
          rw [ej]
          have ew2 : IntKind.i64.wrap ((j' : Int) - 1) = (j' : Int) - 1 := IntWalk.i64_in _ (by omega)
          clear q3 q5 q6 q7 q8 q9 p1 p2 p4 hl'
          go_wp2_with (first | (go_at_call 100; refine (unhide HS).mono ?_; rintro _ w6 ⟨rfl, L'', r1, r2, r3, r4⟩))
          go_roundw
          case rel => exact ⟨j', by omega, rfl, L'', r1.trans (unhide HP1), r2, (unhide HQ _ _ r3 r4).1, (unhide HQ _ _ r3 r4).2⟩
          case measure => first | (simp [intOf]; done) | (simp [intOf]; omega)
end Go.Proofs.YtcbenpodohjbiaaGreat

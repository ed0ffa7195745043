import Derived.Test.YtgmfbjehdcdioaaOfY
set_option linter.unusedSimpArgs false
set_option linter.unusedVariables false
set_option maxRecDepth 100000
namespace Go.Proofs.Ytgmfbjehdcdioaa
open Go.RowKit Go.Sort

theorem Of.cells {w W : World} {b k tot fl mb n : Nat} {S : Value} {E : Nat → Nat × Cn} {L : List (Vk × Nat)} (h : Of w b k tot fl mb S n E L) (hb : Below w.heap.size w W) {i : Nat} (hi : i < n) :
    W.cell? ⟨(E i).1, 0, none⟩ = some (.int .i64 (E i).2.k) ∧ W.cell? ⟨(E i).1, 1, none⟩ = some (.int .i64 (E i).2.n) ∧ W.cell? ⟨(E i).1, 2, none⟩ = some (.string (E i).2.s) ∧ W.cell? ⟨(E i).1, 3, none⟩ = some (.int .i64 (E i).2.lo) ∧ W.cell? ⟨(E i).1, 4, none⟩ = some (.int .i64 (E i).2.hi) := by
  have hc := (h.later hb).qu.ctr i hi
  exact ⟨hc.cell (i := 0) (by omega), hc.cell (i := 1) (by omega), hc.cell (i := 2) (by omega), hc.cell (i := 3) (by omega), hc.cell (i := 4) (by omega)⟩
theorem Qu.form {w : World} {b n : Nat} {S : Value} {E : Nat → Nat × Cn} (h : Qu w b S n E) : ∃ a c, S = .slice a n c := by
  rcases h.lst.2 with ⟨e, h0⟩ | ⟨g, cap, cur, he, _⟩
  · rw [← h0] at e; exact ⟨_, _, e⟩
  · exact ⟨_, _, he⟩
theorem TgS.more {w wr W X w1 : World} {a5 aT : Option Addr} {c5 cT m : Nat} {G : Nat → Nat × Cn} {l : List (Ct Vk)} (h : TgS w wr (.slice aT m cT) m G l) (hb : Below wr.heap.size wr W) (k n : Int) (s : ByteArray) (lo hi : Nat) {a c : Int} (ha : a = (lo : Int)) (hc : c = (hi : Int)) {os : Obj}
    (hX : Below ((W.alloc (.cells #[.int .i64 k, .int .i64 n, .string s, .int .i64 a, .int .i64 c, .int .i64 0] 60)).alloc os).heap.size ((W.alloc (.cells #[.int .i64 k, .int .i64 n, .string s, .int .i64 a, .int .i64 c, .int .i64 0] 60)).alloc os) X)
    (ho : w1.ownsRow w.heap.size 57 1 (.slice a5 (m + 1) c5) (m + 1) (ptrs G m ++ [pv W.heap.size])) (hg : X.grownBy w1 (Value.slice aT m cT).ownBlock) :
    TgS w w1 (.slice a5 (m + 1) c5) (m + 1) (upE G m (W.heap.size, ⟨k, n, s, lo, hi⟩)) (l ++ [⟨⟨k, n, s⟩, lo, hi⟩]) :=
  h.app (below_step (below_alloc (below_alloc hb _) _) hX) (rowIs_later (World.rowIs.alloc (box60 W k n s lo hi ha hc) os) hX) hb.size ho hg

set_option maxHeartbeats 4000000 in
theorem together_any {w : World} {bo bp k To Tp fo fp mo mp no np : Nat} {So Sp : Value} {Eo Ep : Nat → Nat × Cn} {Lo Lp : List (Vk × Nat)} {xs ys : List (Vk × Nat)} (ho : Of w bo k To fo mo So no Eo Lo) (hlo : Loose k fo (cts Eo no) xs) (hp : Of w bp k Tp fp mp Sp np Ep Lp) (hlp : Loose k fp (cts Ep np) ys) (hno : no ≤ 1024) (hnp : np ≤ 1024) (htt : tot xs + tot ys ≤ 4611686018427387904) :
    Calls Try.prog 16 #[.pointer (some ⟨bo, 0, none⟩), .pointer (some ⟨bp, 0, none⟩)] w fun e w' => ∃ T m G, e = .returned T ∧ TgS w w' T m G (togL fo fp (cts Eo no) (cts Ep np)) := by
  obtain ⟨ao, co, hSo⟩ := ho.qu.form
  obtain ⟨ap, cp, hSp⟩ := hp.qu.form
  have c4 := ho.facts.2.2.2.2.1
  rw [hSo] at c4
  have HO := hide ho
  have HP := hide hp
  have HLO := hide hlo
  have HLP := hide hlp
  have HBD : Hid (∀ W, Below w.heap.size w W → ∀ x : Vk, Calls Try.prog 31 #[.pointer (some ⟨bp, 0, none⟩), .agg #[.int .i64 x.k, .int .i64 x.n, .string x.s]] W fun e w' => e = .returned (.tuple #[.int .i64 (loOf (cts Ep np) x), .int .i64 (hiOf fp (cts Ep np) x)]) ∧ Below W.heap.size W w') := fun W hW x => by
    refine (bounds_any (hp.later hW) x).mono ?_
    rintro e w' ⟨r1, r2⟩
    exact ⟨bd_loose hlp r1, r2⟩
  have HST := hide (TgS.start w)
  clear ho hp hlo hlp
  go_enter Try.func16, Try.ntmps16
  go_wp2_with fail
  go_loopw [5, 19] (fun s5 s19 wr => ∃ (i : Nat) (T : Value) (G : Nat → Nat × Cn), s5 = T ∧ s19 = .int .i64 (i : Int) ∧ i ≤ no ∧ Hid (TgS w wr T i G (tog1 fp (cts Eo i) (cts Ep np)))) (fun _ s _ => no - (intOf s).toNat)
  case atStart => exact ⟨0, _, _, rfl, rfl, Nat.zero_le _, HST⟩
  case round =>
    obtain ⟨i, T, G, rfl, rfl, hin, HT⟩ := hrel
    clear c4 HST
    obtain ⟨aT, cT, hT⟩ := (unhide HT).slice
    subst hT
    by_cases hi : i < no
    · have hB := (unhide HT).bel
      obtain ⟨lb, cap, hSl⟩ := (unhide HO).qu.slice (by omega)
      have hO1 := (unhide HO).later hB
      have d0 := (hO1.qu.at hSl hi).1
      rw [hSo] at hSl
      cases hSl
      obtain ⟨u0, u1, u2, u3, u4⟩ := (unhide HO).cells hB hi
      have HCE : Hid (∀ W, Below wr.heap.size wr W → W.cell? ⟨(Eo i).1, 0, none⟩ = some (.int .i64 (Eo i).2.k) ∧ W.cell? ⟨(Eo i).1, 1, none⟩ = some (.int .i64 (Eo i).2.n) ∧ W.cell? ⟨(Eo i).1, 2, none⟩ = some (.string (Eo i).2.s) ∧ W.cell? ⟨(Eo i).1, 3, none⟩ = some (.int .i64 (Eo i).2.lo) ∧ W.cell? ⟨(Eo i).1, 4, none⟩ = some (.int .i64 (Eo i).2.hi)) := fun W hW => (unhide HO).cells (below_step hB hW) hi
      have HB1 : Hid (Calls Try.prog 31 #[.pointer (some ⟨bp, 0, none⟩), .agg #[.int .i64 (Eo i).2.k, .int .i64 (Eo i).2.n, .string (Eo i).2.s]] wr fun e w' => e = .returned (.tuple #[.int .i64 (loOf (cts Ep np) (Eo i).2.key), .int .i64 (hiOf fp (cts Ep np) (Eo i).2.key)]) ∧ Below wr.heap.size wr w') := unhide HBD wr hB (Eo i).2.key
      obtain ⟨b1, b2, _⟩ := (unhide HLO).hi_le (cts_mem (E := Eo) hi)
      obtain ⟨b3, b4⟩ := (unhide HLP).of_le (Eo i).2.key
      simp only [ctOf] at b1 b2
      have HAP : Hid (∀ W X w1 a5 c5 os (a c : Int), Below wr.heap.size wr W → a = (((Eo i).2.lo + loOf (cts Ep np) (Eo i).2.key : Nat) : Int) → c = (((Eo i).2.hi + hiOf fp (cts Ep np) (Eo i).2.key : Nat) : Int) → w1.ownsRow w.heap.size 57 1 (.slice a5 (i + 1) c5) (i + 1) (ptrs G i ++ [pv W.heap.size]) → Below ((W.alloc (.cells #[.int .i64 (Eo i).2.k, .int .i64 (Eo i).2.n, .string (Eo i).2.s, .int .i64 a, .int .i64 c, .int .i64 0] 60)).alloc os).heap.size ((W.alloc (.cells #[.int .i64 (Eo i).2.k, .int .i64 (Eo i).2.n, .string (Eo i).2.s, .int .i64 a, .int .i64 c, .int .i64 0] 60)).alloc os) X → X.grownBy w1 (Value.slice aT i cT).ownBlock → ∃ G', TgS w w1 (.slice a5 (i + 1) c5) (i + 1) G' (tog1 fp (cts Eo (i + 1)) (cts Ep np))) := fun W X w1 a5 c5 os a c hW ha hc h1 hX h2 => by
        rw [tog1_succ]
        exact ⟨_, (unhide HT).more hW _ _ _ _ _ ha hc hX h1 h2⟩
      have HOW : Hid (∀ W, Below wr.heap.size wr W → W.ownsRow w.heap.size 57 1 (.slice aT i cT) i (ptrs G i)) := fun W hW => own_later (unhide HT).own hW
      have HSZ : Hid (w.heap.size ≤ wr.heap.size) := hB.size
      obtain ⟨p, hp⟩ : ∃ p, (Eo i).1 = p := ⟨_, rfl⟩
      obtain ⟨lo, hlo⟩ : ∃ lo, (Eo i).2.lo = lo := ⟨_, rfl⟩
      obtain ⟨hh, hhi⟩ : ∃ hh, (Eo i).2.hi = hh := ⟨_, rfl⟩
      obtain ⟨l2, hl2⟩ : ∃ l2, loOf (cts Ep np) (Eo i).2.key = l2 := ⟨_, rfl⟩
      obtain ⟨h2, hh2⟩ : ∃ h2, hiOf fp (cts Ep np) (Eo i).2.key = h2 := ⟨_, rfl⟩
      obtain ⟨xk, hxk⟩ : ∃ xk, (Eo i).2.k = xk := ⟨_, rfl⟩
      obtain ⟨xn, hxn⟩ : ∃ xn, (Eo i).2.n = xn := ⟨_, rfl⟩
      obtain ⟨xs', hxs⟩ : ∃ xs', (Eo i).2.s = xs' := ⟨_, rfl⟩
      rw [hp, hlo, hhi, hxk, hxn, hxs] at HCE
      rw [hp] at d0 u0 u1 u2 u3 u4
      rw [hxk] at u0
      rw [hxn] at u1
      rw [hxs] at u2
      rw [hlo] at u3 b2
      rw [hhi] at u4 b1
      rw [hl2, hh2, hxk, hxn, hxs] at HB1
      rw [hl2, hh2, hlo, hhi, hxk, hxn, hxs] at HAP
      rw [hl2] at b3
      rw [hh2] at b4
      have i1 : (lo : Int) + (l2 : Int) ≤ 4611686018427387904 := by omega
      have i2 : (hh : Int) + (h2 : Int) ≤ 4611686018427387904 := by omega
      have i3 : (i : Int) < (no : Int) := by omega
      clear hO1 hB hp hlo hhi hl2 hh2 hxk hxn hxs b1 b2 b3 b4
      go_upto_region 6 with (go_at_call 31; refine (unhide HB1).mono ?_; rintro _ w2 ⟨rfl, hb2⟩; replace hb2 := hide hb2; clear u0 u1 u2 u3 u4 d0; obtain ⟨u0, u1, u2, u3, u4⟩ := unhide HCE w2 (unhide hb2))
      go_region_law (refine step_app_ptr rfl _ _ rfl w.heap.size (.slice aT i cT) i (ptrs G i) (by simp [Act.eval, Act.put]) (unhide HOW _ (below_alloc (below_alloc (unhide hb2) _) _).drew) (w2.heap.size + 1) w2.heap.size (by simp [Act.eval, Act.put]) (by simp [go_sem, pv]) (by omega) (by have := unhide HSZ; have := (unhide hb2).size; simp; omega) ?_; intro a5 c5 w1 ho5 hg5 hat5; obtain ⟨G', hG'⟩ := unhide HAP _ _ w1 a5 c5 _ _ _ (unhide hb2) (by first | omega | (rw [IntKind.wrap_i64]; omega)) (by first | omega | (rw [IntKind.wrap_i64]; omega)) ho5 (Below.refl _ _).drew hg5; replace hG' := hide hG'; clear ho5 hg5 hat5)
      all_goals
        go_wp2
        go_roundw
        case rel => exact ⟨i + 1, _, G', rfl, by go_num, by omega, hG'⟩
        case measure => simp [intOf]; omega
    · obtain rfl : i = no := by omega
      have g4 := ((unhide HP).later (unhide HT).bel).facts.2.2.2.2.1
      rw [hSp] at g4
      have e0 : tog1 fp (cts Eo i) (cts Ep np) = tog1 fp (cts Eo i) (cts Ep np) ++ tog2 fo (cts Eo i) (cts Ep 0) := by simp [tog2, cts, lisE]
      have HT0 := hide (e0 ▸ unhide HT : TgS w wr (.slice aT i cT) i G (tog1 fp (cts Eo i) (cts Ep np) ++ tog2 fo (cts Eo i) (cts Ep 0)))
      clear e0 HT
      go_wp2_with fail
      go_loopw [5, 59] (fun s5 s59 wq => ∃ (j m : Nat) (T : Value) (G : Nat → Nat × Cn), s5 = T ∧ s59 = .int .i64 (j : Int) ∧ j ≤ np ∧ m ≤ i + j ∧ Hid (TgS w wq T m G (tog1 fp (cts Eo i) (cts Ep np) ++ tog2 fo (cts Eo i) (cts Ep j)))) (fun _ s _ => np - (intOf s).toNat)
      case atStart => exact ⟨0, i, _, G, rfl, rfl, Nat.zero_le _, by omega, HT0⟩
      case round =>
        obtain ⟨j, m, T, G, rfl, rfl, hjn, hmn, HQ⟩ := hrel
        clear g4 HT0
        obtain ⟨aT, cT, hT⟩ := (unhide HQ).slice
        subst hT
        by_cases hj : j < np
        · have hB := (unhide HQ).bel
          obtain ⟨lb, cap, hSl⟩ := (unhide HP).qu.slice (by omega)
          have hP1 := (unhide HP).later hB
          have hO1 := (unhide HO).later hB
          have d0 := (hP1.qu.at hSl hj).1
          rw [hSp] at hSl
          cases hSl
          obtain ⟨_, _, g2, g3, _⟩ := hO1.facts
          obtain ⟨u0, u1, u2, u3, u4⟩ := (unhide HP).cells hB hj
          obtain ⟨b1, b2, _⟩ := (unhide HLP).hi_le (cts_mem (E := Ep) hj)
          have b3 := (unhide HLO).fl_le
          simp only [ctOf] at b1 b2
          have HSZ : Hid (w.heap.size ≤ wr.heap.size) := hB.size
          have i3 : (j : Int) < (np : Int) := by omega
          have hlks : ∀ (x : Vk), x = (Ep j).2.key → (atK Lo x = none → (Instr.lookup 50 (.map (some mo)) (.agg #[.int .i64 x.k, .int .i64 x.n, .string x.s]) true).run Try.prog wr.drew = .ok (.tuple #[.pointer none, .bool false]) wr.drew) ∧ (∀ jj q, atK Lo x = some (jj, q) → (Instr.lookup 50 (.map (some mo)) (.agg #[.int .i64 x.k, .int .i64 x.n, .string x.s]) true).run Try.prog wr.drew = .ok (.tuple #[.pointer (some ⟨q, 0, none⟩), .bool true]) wr.drew) := fun x _ =>
            ⟨fun hx => look_no (W := wr.drew) ((hO1.later (Below.refl _ _).drew).map) hx, fun jj q hx => look_yes (W := wr.drew) ((hO1.later (Below.refl _ _).drew).map) hx⟩
          cases hx : atK Lo (Ep j).2.key with
          | some jp =>
            obtain ⟨jj, q⟩ := jp
            have hlk := (hlks _ rfl).2 jj q hx
            have HN : Hid (TgS w wr.drew (.slice aT m cT) m G (tog1 fp (cts Eo i) (cts Ep np) ++ tog2 fo (cts Eo i) (cts Ep (j + 1)))) := by
              rw [tog2_no]
              · exact (unhide HQ).later (Below.refl _ _).drew
              · obtain ⟨z, hz, _, hk⟩ := (unhide HO).found hx
                exact ⟨_, cts_mem hz, hk⟩
            clear hlks hx hP1 hO1 hB b1 b2 b3
            obtain ⟨p, hp⟩ : ∃ p, (Ep j).1 = p := ⟨_, rfl⟩
            simp only [Cn.key] at hlk
            rw [hp] at d0 u0 u1 u2 u3 u4
            clear hp
            go_upto_region 11 with fail
            go_region_law (fail)
            all_goals
              go_wp2
              go_roundw
              case rel => exact ⟨j + 1, m, _, G, rfl, by go_num, by omega, by omega, HN⟩
              case measure => simp [intOf]; omega
          | none =>
            have hlk := (hlks _ rfl).1 hx
            have HAP : Hid (∀ W X w1 a5 c5 os (a c : Int), Below wr.heap.size wr W → a = ((Ep j).2.lo : Int) → c = (((Ep j).2.hi + fo : Nat) : Int) → w1.ownsRow w.heap.size 57 1 (.slice a5 (m + 1) c5) (m + 1) (ptrs G m ++ [pv W.heap.size]) → Below ((W.alloc (.cells #[.int .i64 (Ep j).2.k, .int .i64 (Ep j).2.n, .string (Ep j).2.s, .int .i64 a, .int .i64 c, .int .i64 0] 60)).alloc os).heap.size ((W.alloc (.cells #[.int .i64 (Ep j).2.k, .int .i64 (Ep j).2.n, .string (Ep j).2.s, .int .i64 a, .int .i64 c, .int .i64 0] 60)).alloc os) X → X.grownBy w1 (Value.slice aT m cT).ownBlock → ∃ G', TgS w w1 (.slice a5 (m + 1) c5) (m + 1) G' (tog1 fp (cts Eo i) (cts Ep np) ++ tog2 fo (cts Eo i) (cts Ep (j + 1)))) := fun W X w1 a5 c5 os a c hW ha hc h1 hX h2 => by
              rw [tog2_yes, ← List.append_assoc]
              · exact ⟨_, (unhide HQ).more hW _ _ _ _ _ ha hc hX h1 h2⟩
              · intro c hc
                obtain ⟨e, he, rfl⟩ := List.mem_map.1 hc
                obtain ⟨z, hz, rfl⟩ := List.mem_map.1 he
                exact (unhide HO).missing hx z (List.mem_range.1 hz)
            have HOW : Hid (∀ W, Below wr.heap.size wr W → W.ownsRow w.heap.size 57 1 (.slice aT m cT) m (ptrs G m)) := fun W hW => own_later (unhide HQ).own hW
            clear hlks hx hP1 hO1 hB
            obtain ⟨p, hp⟩ : ∃ p, (Ep j).1 = p := ⟨_, rfl⟩
            obtain ⟨lo, hlo⟩ : ∃ lo, (Ep j).2.lo = lo := ⟨_, rfl⟩
            obtain ⟨hh, hhi⟩ : ∃ hh, (Ep j).2.hi = hh := ⟨_, rfl⟩
            obtain ⟨xk, hxk⟩ : ∃ xk, (Ep j).2.k = xk := ⟨_, rfl⟩
            obtain ⟨xn, hxn⟩ : ∃ xn, (Ep j).2.n = xn := ⟨_, rfl⟩
            obtain ⟨xs', hxs⟩ : ∃ xs', (Ep j).2.s = xs' := ⟨_, rfl⟩
            simp only [Cn.key] at hlk
            rw [hp] at d0 u0 u1 u2 u3 u4
            rw [hxk] at u0
            rw [hxn] at u1
            rw [hxs] at u2
            rw [hlo] at u3
            rw [hhi] at u4 b1
            rw [hxk, hxn, hxs] at hlk
            rw [hlo, hhi, hxk, hxn, hxs] at HAP
            have i1 : (hh : Int) + (fo : Int) ≤ 4611686018427387904 := by omega
            clear hp hlo hhi hxk hxn hxs b1 b2 b3
            go_upto_region 11 with fail
            go_region_law (fail)
            all_goals
              go_upto_region 13 with fail
              go_region_law (refine step_app_ptr rfl _ _ rfl w.heap.size (.slice aT m cT) m (ptrs G m) (by simp [Act.eval, Act.put]) (unhide HOW _ (below_alloc (below_alloc (Below.refl _ _) _) _).drew.drew) (wr.heap.size + 1) wr.heap.size (by simp [Act.eval, Act.put]) (by simp [go_sem, pv]) (by omega) (by have := unhide HSZ; simp; omega) ?_; intro a5 c5 w1 ho5 hg5 hat5; obtain ⟨G', hG'⟩ := unhide HAP _ _ w1 a5 c5 _ _ _ (Below.refl _ _) (by first | omega | (rw [IntKind.wrap_i64]; omega)) (by first | omega | (rw [IntKind.wrap_i64]; omega)) ho5 (Below.refl _ _).drew.drew hg5; replace hG' := hide hG'; clear ho5 hg5 hat5)
              all_goals
                go_wp2
                go_roundw
                case rel => exact ⟨j + 1, m + 1, _, G', rfl, by go_num, by omega, by omega, hG'⟩
                case measure => simp [intOf]; omega
        · obtain rfl : j = np := by omega
          have HE := HQ
          go_wp2
          go_ret
          exact ⟨_, m, G, rfl, unhide HE⟩
end Go.Proofs.Ytgmfbjehdcdioaa

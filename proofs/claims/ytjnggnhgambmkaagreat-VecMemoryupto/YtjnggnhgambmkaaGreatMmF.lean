import Derived.Test.YtjnggnhgambmkaaGreatMmA
import Derived.Test.YtjnggnhgambmkaaGreatVecQ
set_option linter.unusedSimpArgs false
set_option linter.unusedVariables false
set_option maxRecDepth 100000
namespace Go.Proofs.YtjnggnhgambmkaaGreat
open Go.RowKit Go.Sort

set_option maxHeartbeats 4000000 in
theorem spoiltV {w : World} {base n : Nat} {S : Value} {ys : List Value} (ho : w.ownsRow base 38 3 S n ys) (hl : n ≤ 2097152) (v : Val) : Calls Tryz.prog 9 #[S, .agg #[.int .i64 v.k, .int .i64 v.n, .string v.s]] w fun e w' => e = .returned (.tuple #[]) ∧ w.grownBy w' S.ownBlock := by
  obtain ⟨W, hW⟩ : ∃ W, w.alloc (.cells #[.int .i64 v.k, .int .i64 v.n, .string v.s] 38) = W := ⟨_, rfl⟩
  have hBW : Below w.heap.size w W := by rw [← hW]; exact below_alloc (Below.refl _ _) _
  have HS0 : Hid (SpS 38 3 W W S n) := SpS.start (own_later ho hBW)
  have HBW := hide hBW
  have HBX : Hid (∀ wr, SpS 38 3 W wr S n → wr.cell? ⟨w.heap.size, 0, none⟩ = some (.int .i64 v.k) ∧ wr.cell? ⟨w.heap.size, 1, none⟩ = some (.int .i64 v.n) ∧ wr.cell? ⟨w.heap.size, 2, none⟩ = some (.string v.s)) := fun wr h => by
    have hk := h.block (q := w.heap.size) (by rw [← hW]; show w.heap.size < (w.heap.push _).size; rw [Array.size_push]; omega) fun e => by have := (World.ownsRow.lt ho _ e).2; omega
    have hc : ∀ j, wr.cell? ⟨w.heap.size, j, none⟩ = W.cell? ⟨w.heap.size, j, none⟩ := fun j => by unfold World.cell?; rw [hk]
    rw [hc, hc, hc, ← hW]
    exact ⟨by simp [go_sem], by simp [go_sem], by simp [go_sem]⟩
  have HGB : Hid (∀ g, S.ownBlock = some g → g ≠ w.heap.size) := fun g hg e => by have := (World.ownsRow.lt ho _ hg).2; omega
  obtain ⟨aS, cS, hS⟩ := own_slice ho
  subst hS
  clear ho hBW
  obtain ⟨bx, hbx⟩ : ∃ bx, w.heap.size = bx := ⟨_, rfl⟩
  rw [hbx] at HBX HGB
  have HAP := hide app_okV
  have HC1 : Hid (∀ (W : World) j u, (c3 v)[j]? = some u → (W.alloc (.cells #[.int .i64 v.k, .int .i64 v.n, .string v.s] 38)).cell? ((⟨W.heap.size, 0, none⟩ : Addr).add j) = some u) := fun W j u hu => by
    rw [Addr.add_lit]
    match j, hu with
    | 0, hu => simp [c3] at hu; subst hu; simp [go_sem]
    | 1, hu => simp [c3] at hu; subst hu; simp [go_sem]
    | 2, hu => simp [c3] at hu; subst hu; simp [go_sem]
    | j + 3, hu => simp [c3] at hu
  have HO1 : Hid (∀ u ∈ c3 v, u.oneCell' = true) := c3_one v
  go_enter Tryz.func9, Tryz.ntmps9
  go_wp2_with fail
  go_loopw [11] (fun s11 wr => ∃ i : Nat, s11 = .int .i64 (i : Int) ∧ i ≤ n ∧ Hid (SpS 38 3 W wr (.slice aS n cS) n)) (fun s _ => n - (intOf s).toNat)
  case atStart => exact ⟨0, rfl, Nat.zero_le _, HS0⟩
  case round =>
    obtain ⟨i, rfl, hin, HS⟩ := hrel
    clear HS0
    by_cases hi : i < n
    · obtain ⟨g, cap, hg⟩ := (unhide HS).some (by omega)
      injection hg with hg _ hcap
      subst hg hcap
      obtain ⟨ec, ez⟩ := (unhide HS).facts
      obtain ⟨y0, e0⟩ := ec (i * 3) (by omega)
      obtain ⟨y1, e1⟩ := ec (i * 3 + 1) (by omega)
      obtain ⟨y2, e2⟩ := ec (i * 3 + 2) (by omega)
      have z0 := ez (i * 3)
      have z1 := ez (i * 3 + 1)
      have z2 := ez (i * 3 + 2)
      have hgb := unhide HGB g rfl
      obtain ⟨b0, b1, b2⟩ := unhide HBX wr (unhide HS)
      have HS2 := hide ((((unhide HS).set (j := i * 3) (.int .i64 v.k)).set (j := i * 3 + 1) (.int .i64 v.n)).set (j := i * 3 + 2) (.string v.s))
      have i1 : (i : Int) < (n : Int) := by omega
      clear ez ec
      go_wp2
      go_roundw
      case rel => exact ⟨i + 1, by go_num, by omega, HS2⟩
      case measure => simp [intOf]; omega
    · obtain rfl : i = n := by omega
      have HT0 := hide (SpT.self (unhide HS))
      go_wp2_with fail
      go_loopw [5, 6] (fun s5 s6 wq => ∃ (j : Nat) (T : Value), s5 = T ∧ s6 = .int .i64 (j : Int) ∧ j ≤ 20 ∧ Hid (SpS 38 3 W wq (.slice aS i cS) i) ∧ Hid (SpT 38 3 W wq (.slice aS i cS) i T (i + j))) (fun _ s _ => 20 - (intOf s).toNat)
      case atStart => exact ⟨0, _, rfl, rfl, Nat.zero_le _, HS, HT0⟩
      case round =>
        obtain ⟨j, T, rfl, rfl, hj, HQ, HT⟩ := hrel
        clear HS HT0
        obtain ⟨aT, cT, hT⟩ := (unhide HT).slice
        subst hT
        by_cases hj2 : j < 20
        · obtain ⟨b0, b1, b2⟩ := unhide HBX wr (unhide HQ)
          have hb : Below wr.heap.size wr (wr.alloc (.cells #[.int .i64 v.k, .int .i64 v.n, .string v.s] 38)) := below_alloc (Below.refl _ _) _
          obtain ⟨T', w', hrun, hQ', hT', _⟩ := SpT.app (c := 1) (unhide HAP) ((unhide HQ).later hb) ((unhide HT).later hb) 22 ⟨wr.heap.size, 0, none⟩ (m := 1) (ys := c3 v) rfl (unhide HC1 wr) (unhide HO1) (by omega) (by omega)
          have HQ' := hide hQ'
          have HT' := hide hT'
          have i1 : (j : Int) < 20 := by omega
          clear hQ' hT' hb
          go_wp2_with (at_builtin; refine wpList_app_run rfl (.tmp 24) (.tmp 26) 22 rfl _ _ rfl rfl hrun ?_)
          go_roundw
          case rel => exact ⟨j + 1, T', rfl, by go_num, by omega, HQ', HT'⟩
          case measure => simp [intOf]; omega
        · have i1 : ¬ (j : Int) < 20 := by omega
          clear HT
          go_wp2_with fail
          go_loopw [7, 8] (fun s7 s8 wq => ∃ (j : Nat) (M : Value), M = s7 ∧ s8 = .int .i64 (j : Int) ∧ j ≤ 64 ∧ Hid (SpS 38 3 W wq (.slice aS i cS) i) ∧ Hid (Mm 38 3 W wq M j)) (fun _ s _ => 64 - (intOf s).toNat)
          case atStart => exact ⟨0, _, rfl, rfl, Nat.zero_le _, HQ, Mm.nil⟩
          case round =>
            obtain ⟨q, M, rfl, rfl, hq, HR, HM⟩ := hrel
            clear HQ i1
            obtain ⟨aM, cM, hMs⟩ := (unhide HM).slice
            subst hMs
            by_cases hq2 : q < 64
            · obtain ⟨b0, b1, b2⟩ := unhide HBX wr (unhide HR)
              have hb : Below wr.heap.size wr (wr.alloc (.cells #[.int .i64 v.k, .int .i64 v.n, .string v.s] 38)) := below_alloc (Below.refl _ _) _
              obtain ⟨M', w', hrun, hR', hM'⟩ := Mm.step (c := 1) (unhide HAP) (unhide HR) (unhide HM) hb 22 ⟨wr.heap.size, 0, none⟩ (ys := c3 v) rfl (unhide HC1 wr) (unhide HO1) (by omega)
              have HR' := hide hR'
              have HM' := hide hM'
              have i1 : (q : Int) < 64 := by omega
              clear hR' hM' hb
              go_wp2_with (at_builtin; refine wpList_app_run rfl (.tmp 32) (.tmp 34) 22 rfl _ _ rfl rfl hrun ?_)
              go_roundw
              case rel => exact ⟨q + 1, M', rfl, by go_num, by omega, HR', HM'⟩
              case measure => simp [intOf]; omega
            · obtain rfl : q = 64 := by omega
              obtain ⟨T', w', hrun, hF⟩ := Mm.last (M := .slice aM 64 cM) (unhide HAP) (unhide HR) (unhide HM) (by omega) 22 (by omega)
              have HF := hide hF
              clear hF
              go_wp2_with (at_builtin; refine wpList_app_run rfl (.tmp 36) (.tmp 37) 22 rfl _ _ rfl rfl hrun ?_)
              go_end0
              exact ⟨rfl, grownBy_after (grown_none (unhide HBW) _) (unhide HF) fun g hg => .inl hg⟩
end Go.Proofs.YtjnggnhgambmkaaGreat
set_option linter.unusedSimpArgs false
set_option linter.unusedVariables false
set_option maxRecDepth 100000
namespace Go.Proofs.YtjnggnhgambmkaaGreat
open Go.RowKit Go.Sort

set_option maxHeartbeats 4000000 in
set_option maxRecDepth 100000 in
theorem samevec_same (X : Vc) (p q : Sl) (w : World) (hf : fit X) (hp : VecAt w X p) (hq : VecAt w X q) :
    Calls Tryz.prog 21 #[vecV X p, vecV X q] w fun e w' => e = .returned (.bool true) ∧ Below w.heap.size w w' := by
  rw [vecV_open, vecV_open]
  have HP := hide hp
  have HQ := hide hq
  obtain ⟨l1, l2, l3⟩ := hf
  unfold maxLen at l1 l2 l3
  clear hp hq
  obtain ⟨W2, hW2⟩ : ∃ W2, W2 = two w (.int .i64 X.k) (.slice p.a1 X.nl.length p.c1) (.slice p.a2 X.ns.length p.c2) (.slice p.a3 X.ss.length p.c3) (.int .i64 X.k) (.slice q.a1 X.nl.length q.c1) (.slice q.a2 X.ns.length q.c2) (.slice q.a3 X.ss.length q.c3) := ⟨_, rfl⟩
  have HW2 := hide hW2
  go_enter Tryz.func21, Tryz.ntmps21
  go_wp2_with fail
  go_loopw [43] (fun i wr => ∃ k : Nat, k ≤ X.nl.length ∧ i = .int .i64 k ∧ Below W2.heap.size W2 wr) (fun i _ => X.nl.length - (intOf i).toNat)
  case atStart => exact ⟨0, Nat.zero_le _, rfl, by rw [hW2]; exact Below.refl _ _⟩
  case round =>
    clear hW2
    obtain ⟨k, hkl, rfl, hb⟩ := hrel
    have hb' := hb
    rw [unhide HW2] at hb'
    obtain ⟨⟨v2, v3, v4⟩, ⟨u2, u3, u4⟩, hB⟩ := two_facts hb'
    by_cases h1 : k < X.nl.length
    · obtain ⟨x, hx⟩ : ∃ x, X.nl[k]? = some x := ⟨_, List.getElem?_eq_getElem h1⟩
      obtain ⟨pb, po, ep, cp⟩ := ((unhide HP).later hB).1.get (k := k) (x := .bool x) (by simp [hx])
      obtain ⟨qb, qo, eq, cq⟩ := ((unhide HQ).later hB).1.get (k := k) (x := .bool x) (by simp [hx])
      rw [ep] at v2
      rw [eq] at u2
      have k0 := cell_regrown v2
      have k1 := cell_regrown u2
      have k2 := cell_regrown cp
      have k3 := cell_regrown cq
      have i1 : (k : Int) < (X.nl.length : Int) := by omega
      clear ep eq hx hb'
      go_wp2_with fail
      refine wp_region_quiet_below (by kernel_rfl) (by kernel_rfl) ?_
      repeat (go_big_quiet_step (fail))
      refine wpQuiet_nil ?_
      intro w' hw'
      have hB2 : Below wr.heap.size wr w' := by obtain ⟨p, rfl⟩ := hw'; exact below_regrown _ _ _
      clear hw'
      have hbel' := below_step hb hB2
      go_wp2
      go_roundw
      case rel => exact ⟨k + 1, by omega, by go_num, hbel'⟩
      case measure => simp [intOf]; omega
    · have i1 : ¬ (k : Int) < (X.nl.length : Int) := by omega
      obtain ⟨W3, rfl⟩ : ∃ W3, W3 = wr := ⟨_, rfl⟩
      go_wp2
      clear hb' v2 v3 v4 u2 u3 u4 hB hkl h1 i1
      go_loopw [61] (fun i wr => ∃ k : Nat, k ≤ X.ns.length ∧ i = .int .i64 k ∧ Below W2.heap.size W2 wr) (fun i _ => X.ns.length - (intOf i).toNat)
      case atStart => exact ⟨0, Nat.zero_le _, rfl, hb⟩
      case round =>
        clear hb
        obtain ⟨k, hkl, rfl, hb⟩ := hrel
        have hb' := hb
        rw [unhide HW2] at hb'
        obtain ⟨⟨v2, v3, v4⟩, ⟨u2, u3, u4⟩, hB⟩ := two_facts hb'
        by_cases h1 : k < X.ns.length
        · obtain ⟨x, hx⟩ : ∃ x, X.ns[k]? = some x := ⟨_, List.getElem?_eq_getElem h1⟩
          obtain ⟨pb, po, ep, cp⟩ := ((unhide HP).later hB).2.1.get (k := k) (x := .int .i64 x) (by simp [hx])
          obtain ⟨qb, qo, eq, cq⟩ := ((unhide HQ).later hB).2.1.get (k := k) (x := .int .i64 x) (by simp [hx])
          rw [ep] at v3
          rw [eq] at u3
          have k0 := cell_regrown v3
          have k1 := cell_regrown u3
          have k2 := cell_regrown cp
          have k3 := cell_regrown cq
          have i1 : (k : Int) < (X.ns.length : Int) := by omega
          clear ep eq hx hb'
          go_wp2_with fail
          refine wp_region_quiet_below (by kernel_rfl) (by kernel_rfl) ?_
          repeat (go_big_quiet_step (fail))
          refine wpQuiet_nil ?_
          intro w' hw'
          have hB2 : Below wr.heap.size wr w' := by obtain ⟨p, rfl⟩ := hw'; exact below_regrown _ _ _
          clear hw'
          have hbel' := below_step hb hB2
          go_wp2
          go_roundw
          case rel => exact ⟨k + 1, by omega, by go_num, hbel'⟩
          case measure => simp [intOf]; omega
        · have i1 : ¬ (k : Int) < (X.ns.length : Int) := by omega
          obtain ⟨W3, rfl⟩ : ∃ W3, W3 = wr := ⟨_, rfl⟩
          go_wp2
          clear hb' v2 v3 v4 u2 u3 u4 hB hkl h1 i1
          go_loopw [79] (fun i wr => ∃ k : Nat, k ≤ X.ss.length ∧ i = .int .i64 k ∧ Below W2.heap.size W2 wr) (fun i _ => X.ss.length - (intOf i).toNat)
          case atStart => exact ⟨0, Nat.zero_le _, rfl, hb⟩
          case round =>
            clear hb
            obtain ⟨k, hkl, rfl, hb⟩ := hrel
            have hb' := hb
            rw [unhide HW2] at hb'
            obtain ⟨⟨v2, v3, v4⟩, ⟨u2, u3, u4⟩, hB⟩ := two_facts hb'
            by_cases h1 : k < X.ss.length
            · obtain ⟨x, hx⟩ : ∃ x, X.ss[k]? = some x := ⟨_, List.getElem?_eq_getElem h1⟩
              obtain ⟨pb, po, ep, cp⟩ := ((unhide HP).later hB).2.2.get (k := k) (x := .string x) (by simp [hx])
              obtain ⟨qb, qo, eq, cq⟩ := ((unhide HQ).later hB).2.2.get (k := k) (x := .string x) (by simp [hx])
              rw [ep] at v4
              rw [eq] at u4
              have k0 := cell_regrown v4
              have k1 := cell_regrown u4
              have k2 := cell_regrown cp
              have k3 := cell_regrown cq
              have i1 : (k : Int) < (X.ss.length : Int) := by omega
              clear ep eq hx hb'
              go_wp2_with fail
              refine wp_region_quiet_below (by kernel_rfl) (by kernel_rfl) ?_
              repeat (go_big_quiet_step (fail))
              refine wpQuiet_nil ?_
              intro w' hw'
              have hB2 : Below wr.heap.size wr w' := by obtain ⟨p, rfl⟩ := hw'; exact below_regrown _ _ _
              clear hw'
              have hbel' := below_step hb hB2
              go_wp2
              go_roundw
              case rel => exact ⟨k + 1, by omega, by go_num, hbel'⟩
              case measure => simp [intOf]; omega
            · have i1 : ¬ (k : Int) < (X.ss.length : Int) := by omega
              clear hb'
              go_wp2
              go_ret
              exact ⟨rfl, hB⟩
set_option maxHeartbeats 2000000 in
set_option maxRecDepth 100000 in
theorem samenums_same (aa ab : Option Addr) (ca cb : Nat) (xs : List Int) (w : World) (hla : xs.length ≤ maxLen) (ha : LisAt w aa (xs.map (.int .i64))) (hb : LisAt w ab (xs.map (.int .i64))) :
    Calls Tryz.prog 22 #[.slice aa xs.length ca, .slice ab xs.length cb] w fun e w' => e = .returned (.bool true) ∧ Below w.heap.size w w' := by
  unfold maxLen at hla
  go_enter Tryz.func22, Tryz.ntmps22
  go_wp2_with fail
  go_loopw [13] (fun i wr => ∃ k : Nat, k ≤ xs.length ∧ i = .int .i64 k ∧ Below w.heap.size w wr) (fun i wx => xs.length - (intOf i).toNat)
  case atStart => exact ⟨0, Nat.zero_le _, rfl, Below.refl _ _⟩
  case round =>
    obtain ⟨k, hk1, rfl, hbel⟩ := hrel
    have ha' := ha.later hbel
    have hb' := hb.later hbel
    by_cases h1 : k < xs.length
    · obtain ⟨x, hx⟩ : ∃ x, xs[k]? = some x := ⟨_, List.getElem?_eq_getElem h1⟩
      obtain ⟨ba, oa, rfl, c0⟩ := ha'.get (k := k) (x := .int .i64 x) (by simp [hx])
      obtain ⟨bb, ob, rfl, d0⟩ := hb'.get (k := k) (x := .int .i64 x) (by simp [hx])
      have i1 : (k : Int) < (xs.length : Int) := by omega
      clear hx
      go_wp2_with fail
      go_quiet (fail)
      go_wp2
      go_roundw
      case rel => exact ⟨k + 1, by omega, by go_num, below_drewN hbel _⟩
      case measure => simp [intOf]; omega
    · have i1 : ¬ (k : Int) < (xs.length : Int) := by omega
      go_wp2
      go_ret
      exact ⟨rfl, hbel⟩


def markV : Val := ⟨2, 0, ⟨#[115, 112, 111, 105, 108, 116]⟩⟩
theorem mark_any (w : World) : Calls Tryz.prog 10 #[] w fun e w' => e = .returned (.agg #[.int .i64 2, .int .i64 0, .string ⟨#[115, 112, 111, 105, 108, 116]⟩]) ∧ Below w.heap.size w w' := by
  go_enter Tryz.func10, Tryz.ntmps10
  go_wp2
  refine bodyPost_ret (v := .agg #[.int .i64 2, .int .i64 0, .string ⟨#[115, 112, 111, 105, 108, 116]⟩]) (by simp [results, Tryz.results10, go_sem]) rfl ⟨rfl, below_alloc (Below.refl _ _) _⟩
end Go.Proofs.YtjnggnhgambmkaaGreat
set_option linter.unusedSimpArgs false
set_option linter.unusedVariables false
namespace Go.Proofs.YtjnggnhgambmkaaGreat
open Go.RowKit Go.Sort

/-- A slice of rows, as it lies in memory. -/
def RowsAt (w : World) (a : Option Addr) (rs : List (List Val)) : Prop :=
  rs = [] ∨ ∃ b off, a = some ⟨b, off, none⟩ ∧ ∀ i r, rs[i]? = some r → ∃ ra rc, w.cell? ⟨b, off + i, none⟩ = some (.slice ra r.length rc) ∧ RowAt w ra r
theorem RowsAt.later {w w' : World} {a : Option Addr} {rs : List (List Val)} (h : RowsAt w a rs) (hb : Below w.heap.size w w') : RowsAt w' a rs := by
  rcases h with h | ⟨b, off, ha, h⟩
  · exact .inl h
  · exact .inr ⟨b, off, ha, fun i r hr => by obtain ⟨ra, rc, h1, h2⟩ := h i r hr; exact ⟨ra, rc, cell_later hb h1, h2.later hb⟩⟩

end Go.Proofs.YtjnggnhgambmkaaGreat

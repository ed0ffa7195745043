import Derived.Test.YtcpndojkfngioaaGreatPlW
set_option linter.unusedSimpArgs false
set_option linter.unusedVariables false
namespace Go.Proofs.YtcpndojkfngioaaGreat
open Go.RowKit Go.Sort

/-- A column's kind. -/
def atK (ks : List Int) (c : Int) : Int := (ks[c.toNat]?).getD 0
def aggK (ks : List Int) (x : Int × Int) : Int := if x.1 == 4 || x.1 == 5 then atK ks x.2 else 1
def grpK (ks cols : List Int) (aggs : List (Int × Int)) : List Int := cols.map (atK ks) ++ aggs.map (aggK ks)
def aggOut (n : Nat) (x : Int × Int) : Bool := x.1 != 1 && decide ((n : Int) ≤ x.2)
def aggNo (ks : List Int) (x : Int × Int) : Bool := x.1 == 3 && atK ks x.2 != 1
def grpE (ks cols : List Int) (aggs : List (Int × Int)) : Int :=
  if cols.any (fun c => decide ((ks.length : Int) ≤ c)) || decide (32 < cols.length + aggs.length) || aggs.any (aggOut ks.length) then 1 else if aggs.any (aggNo ks) then 4 else 0
theorem any_out {α : Type} {p : α → Bool} {l : List α} (h : l.any p = false) {x : α} (hx : x ∈ l) : p x = false := by
  cases e : p x
  · rfl
  · rw [List.any_eq_true.2 ⟨x, hx, e⟩] at h; cases h
theorem own_single2 (W : World) (o : Obj) (base : Nat) (hb : base ≤ W.heap.size) (n : Int) : OwnI ((W.alloc o).alloc (.cells #[.int .i64 n] 3)) base (.slice (some ⟨W.heap.size + 1, 0, none⟩) 1 1) [n] := by
  have e : (W.alloc o).heap.size = W.heap.size + 1 := by simp [go_sem]
  have h := own_single (W.alloc o) base (by omega) n
  rw [e] at h
  exact h
theorem PjQ.err {L : List Int} {er : Int} {w w' : World} (h : ¬ er = 0) (hb : Below w.heap.size w w') : PjQ L er w (.returned (.tuple #[.slice none 0 0, .int .i64 er])) w' := ⟨none, 0, [], rfl, own_nil _ _, fun e => absurd e h, hb⟩
set_option maxHeartbeats 4000000 in
set_option maxRecDepth 100000 in
/-- tallyref.grouped (35). -/
theorem grouped_any (ks : List Int) (hkl : ks.length ≤ 1048576) (aK : Option Addr) (cK : Nat) (p : Pl) (hf : p.fin) (m : Pm) (w : World) (ho : Own4 w p m) (hK : IntsAt w aK ks) (hc0 : ∀ x ∈ p.cols, 0 ≤ x) (ha0 : ∀ x ∈ p.aggs, 0 ≤ x.2) :
    Calls Tryz.prog 35 #[p.val m, .slice aK ks.length cK] w (PjQ (grpK ks p.cols p.aggs) (grpE ks p.cols p.aggs) w) := by
  obtain ⟨⟨f1, f2, f3, f4, f5, f6, f7, fc, fk, fa⟩, _, _⟩ := Pl.fin_open hf
  obtain ⟨R, hR⟩ : ∃ R, R = grpE ks p.cols p.aggs := ⟨_, rfl⟩
  rw [← hR]
  unfold grpE at hR
  have hb0 := below_alloc (Below.refl _ w) (p.box m)
  have HE := hide (Elv.new w p m)
  have HB := hide hb0
  have HC := hide (beyond_any p.cols (ks.length : Int) m.aC m.cC (w.alloc (p.box m)) (by omega) (ho.c.later hb0))
  have HO4 := hide (ho.later hb0)
  have HK := hide (hK.later hb0)
  have HR := hide hR
  have HC0 := hide hc0
  have HA0 := hide ha0
  rw [Pl.val_open]
  unfold Pl.box at HE HB HC HO4 HK
  clear hR hb0 ho hf fc fk fa hK hc0 ha0
  obtain ⟨wa, hwa⟩ : ∃ wa, wa = w.alloc (.cells #[.int .i64 p.op, .string p.tab, .slice m.aE p.ex.length m.cE, .slice m.aC p.cols.length m.cC, .slice m.aK p.keys.length m.cK, .slice m.aA p.aggs.length m.cA, .int .i64 p.fn, .int .i64 p.col, .int .i64 p.n, .int .i64 p.off, .slice m.aP p.args.length m.cP] 28) := ⟨_, rfl⟩
  rw [← hwa] at HE HB HC HO4 HK
  have HWA := hide hwa
  have hEl := unhide HE
  have c3 := hEl.c3
  simp only [Nat.zero_add] at c3
  clear hwa hEl
  cases hl : p.cols.any (fun c => decide ((ks.length : Int) ≤ c))
  case true =>
    rw [hl] at HC HR
    obtain rfl : R = 1 := unhide HR
    clear hl
    go_enter Tryz.func35, Tryz.ntmps35
    go_upto_region 2 with fail
    rw [← unhide HWA]
    go_wp2_with (go_at_call 37; refine (unhide HC).mono ?_; rintro r w1 ⟨rfl, hb1⟩)
    refine bodyPost_ret (v := .tuple #[.slice none 0 0, .int .i64 1]) (by simp [results, Tryz.results35, go_sem]) rfl ?_
    exact PjQ.err (by decide) (below_step (unhide HB) hb1)
  rw [hl] at HC
  by_cases h32 : 32 < p.cols.length + p.aggs.length
  case pos =>
    obtain rfl : R = 1 := by rw [unhide HR, hl, decide_eq_true h32]; rfl
    clear hl
    go_enter Tryz.func35, Tryz.ntmps35
    go_upto_region 2 with fail
    rw [← unhide HWA]
    have h33 : (32 : Int) < (p.cols.length : Int) + (p.aggs.length : Int) := by omega
    go_wp2_with (go_at_call 37; refine (unhide HC).mono ?_; rintro r w1 ⟨rfl, hb1⟩; have hEl := (unhide HE).later hb1; have e3 := hEl.c3; have e5 := hEl.c5; simp only [Nat.zero_add] at e3 e5; clear hEl)
    refine bodyPost_ret (v := .tuple #[.slice none 0 0, .int .i64 1]) (by simp [results, Tryz.results35, go_sem]) rfl ?_
    exact PjQ.err (by decide) (below_step (unhide HB) hb1)
  have HR1 : Hid (R = if p.aggs.any (aggOut ks.length) then 1 else if p.aggs.any (aggNo ks) then 4 else 0) := by
    show _ = _
    rw [unhide HR, hl, decide_eq_false h32]; rfl
  have HCB : Hid (∀ x ∈ p.cols, 0 ≤ x ∧ x < (ks.length : Int)) := fun x hx => ⟨unhide HC0 x hx, by have := any_out hl hx; simp only [decide_eq_false_iff_not] at this; omega⟩
  clear hl HR HC0
  have h33 : ¬ (32 : Int) < (p.cols.length : Int) + (p.aggs.length : Int) := by omega
  have h34 : (p.cols.length : Int) + (p.aggs.length : Int) ≤ 32 := by omega
  go_enter Tryz.func35, Tryz.ntmps35
  go_upto_region 2 with fail
  rw [← unhide HWA]
  go_upto_region 4 with (go_at_call 37; refine (unhide HC).mono ?_; rintro r w1 ⟨rfl, hb1⟩; have hEl := (unhide HE).later hb1; have e3 := hEl.c3; have e5 := hEl.c5; simp only [Nat.zero_add] at e3 e5; clear hEl)
  have HB1 := hide hb1
  clear hb1 HC
  go_wp2_with fail
  go_loopw [6, 32] (fun v i wr => ∃ (k : Nat) (a3 : Option Addr) (c3 : Nat), k ≤ p.cols.length ∧ i = .int .i64 (k : Int) ∧ v = .slice a3 k c3 ∧ Hid (OwnI wr wa.heap.size (.slice a3 k c3) ((p.cols.take k).map (atK ks))) ∧ Hid (Below wa.heap.size wa wr)) (fun _ i _ => p.cols.length - (intOf i).toNat)
  case atStart => exact ⟨0, none, 0, Nat.zero_le _, rfl, rfl, own_nil _ _, unhide HB1⟩
  case round =>
    clear HB1
    obtain ⟨k, a3, c3x, hk, rfl, rfl, HO, HBr⟩ := hrel
    by_cases hlt : k < p.cols.length
    · have h9 : (k : Int) < (p.cols.length : Int) := by omega
      obtain ⟨x, hx⟩ : ∃ x, p.cols[k]? = some x := ⟨_, List.getElem?_eq_getElem hlt⟩
      obtain ⟨g1, g2⟩ := unhide HCB x (List.mem_of_getElem? hx)
      obtain ⟨n, rfl⟩ : ∃ n : Nat, x = (n : Int) := ⟨x.toNat, by omega⟩
      have hn : n < ks.length := by omega
      obtain ⟨y, hy⟩ : ∃ y, ks[n]? = some y := ⟨_, List.getElem?_eq_getElem hn⟩
      obtain ⟨b, off, ea, d0⟩ := ((unhide HO4).c.later (unhide HBr)).get hx
      obtain ⟨b2, off2, ea2, d1⟩ := ((unhide HK).later (unhide HBr)).get hy
      have HT : Hid ((p.cols.take (k + 1)).map (atK ks) = (p.cols.take k).map (atK ks) ++ [y]) := by
        show _ = _
        rw [take_snocI (atK ks) hx]; unfold atK; rw [Int.toNat_natCast, hy]; rfl
      have HLN : Hid (((p.cols.take k).map (atK ks)).length = k) := by show _ = _; simp; omega
      have hb1 := below_alloc (Below.refl _ wr) (.cells #[.int .i64 y] 3)
      have HO1 := hide ((unhide HO).later hb1)
      have HS := hide (own_single wr wa.heap.size (unhide HBr).size y)
      have HB1 := hide (below_step (unhide HBr) hb1)
      generalize (p.cols.take k).map (atK ks) = zs at *
      rw [ea, ea2]
      clear ea ea2 hx hy hb1 HO
      go_wp2_with (at_builtin; refine wpList_push_ints _ rfl (.tmp 36) (.tmp 41) rfl wa.heap.size wa.heap.size _ _ zs [y] rfl (unhide HO1) rfl (unhide HS) (by rw [unhide HLN]; simp; omega) (unhide HB1).size ?_; intro v' w' hO' hB')
      obtain ⟨a4, c4, rfl⟩ := hO'.slice
      have e : (zs ++ [y]).length = k + 1 := by rw [List.length_append, unhide HLN]; rfl
      rw [e] at hO' ⊢
      rw [← unhide HT] at hO'
      exact ⟨⟨k + 1, a4, c4, by omega, by go_num, rfl, hO', (unhide HB1).trans hB'⟩, by simp [intOf]; omega⟩
    · have h9 : ¬ (k : Int) < (p.cols.length : Int) := by omega
      obtain rfl : k = p.cols.length := by omega
      rw [List.take_length] at HO
      have HCL : Hid ((p.cols.map (atK ks)).length = p.cols.length) := by show _ = _; rw [List.length_map]
      have HGK : Hid (grpK ks p.cols p.aggs = p.cols.map (atK ks) ++ p.aggs.map (aggK ks)) := rfl
      generalize p.cols.map (atK ks) = cs at HO HCL HGK
      obtain ⟨wc, hwc⟩ : ∃ wc, wc = wr := ⟨_, rfl⟩
      subst hwc
      have hEl := (unhide HE).later (unhide HBr)
      have e5 := hEl.c5
      simp only [Nat.zero_add] at e5
      clear hk hlt hEl
      go_wp2_with fail
      go_loopw [47] (fun i wr => ∃ (k : Nat), k ≤ p.aggs.length ∧ i = .int .i64 (k : Int) ∧ Hid ((p.aggs.take k).any (aggOut ks.length) = false) ∧ Hid (Below wc.heap.size wc wr)) (fun i _ => p.aggs.length - (intOf i).toNat)
      case atStart => exact ⟨0, Nat.zero_le _, rfl, (by show _ = _; rfl), Below.refl _ _⟩
      case round =>
        obtain ⟨k, hk, rfl, HM, HBk⟩ := hrel
        by_cases hlt : k < p.aggs.length
        · have h9 : (k : Int) < (p.aggs.length : Int) := by omega
          obtain ⟨x, hx⟩ : ∃ x, p.aggs[k]? = some x := ⟨_, List.getElem?_eq_getElem hlt⟩
          obtain ⟨b, off, ea, d0, d1⟩ := (((unhide HO4).a.later (unhide HBr)).later (unhide HBk)).get hx
          have HS1 := hide (any_step (p := aggOut ks.length) hx)
          have HX := hide hx
          have HBa := hide (below_alloc (Below.refl _ wr) (.cells #[.int .i64 x.1, .int .i64 x.2] 100))
          obtain ⟨f, c⟩ := x
          simp only at d0 d1 HBa
          rw [ea]
          clear ea hx
          by_cases hf1 : f = 1
          · have HM2 : Hid ((p.aggs.take (k + 1)).any (aggOut ks.length) = false) := by show _ = _; rw [unhide HS1, unhide HM]; unfold aggOut; rw [hf1]; rfl
            subst hf1
            clear HS1 HM HX
            go_wp2
            exact ⟨⟨k + 1, by omega, by go_num, unhide HM2, below_step (unhide HBk) (unhide HBa)⟩, by simp [intOf]; omega⟩
          · have bf : (f != 1) = true := by simpa using hf1
            by_cases hcl : (ks.length : Int) ≤ c
            · have HZ : Hid (R = 1) := by
                show _ = _
                rw [unhide HR1, any_mem (p := aggOut ks.length) (unhide HX) (by unfold aggOut; simp only; rw [bf, decide_eq_true hcl]; rfl)]; rfl
              clear HS1 HM HX hf1
              go_wp2
              refine bodyPost_ret (v := .tuple #[.slice none 0 0, .int .i64 1]) (by simp [results, Tryz.results35, go_sem]) rfl ?_
              rw [unhide HZ]; exact PjQ.err (by decide) (below_step (unhide HB) (below_step (unhide HBr) (below_step (unhide HBk) (unhide HBa))))
            · have HM2 : Hid ((p.aggs.take (k + 1)).any (aggOut ks.length) = false) := by show _ = _; rw [unhide HS1, unhide HM]; unfold aggOut; simp only; rw [decide_eq_false hcl, Bool.and_false]; rfl
              clear HS1 HM HX hf1
              go_wp2
              exact ⟨⟨k + 1, by omega, by go_num, unhide HM2, below_step (unhide HBk) (unhide HBa)⟩, by simp [intOf]; omega⟩
        · have h9 : ¬ (k : Int) < (p.aggs.length : Int) := by omega
          obtain rfl : k = p.aggs.length := by omega
          rw [List.take_length] at HM
          have HR2 : Hid (R = if p.aggs.any (aggNo ks) then 4 else 0) := by show _ = _; rw [unhide HR1, unhide HM]; rfl
          have HAB : Hid (∀ x ∈ p.aggs, ¬ x.1 = 1 → 0 ≤ x.2 ∧ x.2 < (ks.length : Int)) := by
            intro x hx h1
            refine ⟨unhide HA0 x hx, ?_⟩
            have := any_out (unhide HM) hx
            unfold aggOut at this
            have b1 : (x.1 != 1) = true := by simpa using h1
            rw [b1, Bool.true_and, decide_eq_false_iff_not] at this
            omega
          have HOd := hide ((unhide HO).later (unhide HBk))
          have HBd := hide (below_step (unhide HBr) (unhide HBk))
          have hEl := (unhide HE).later (unhide HBd)
          have e5 := hEl.c5
          simp only [Nat.zero_add] at e5
          clear hk hlt hEl HM HR1 HA0 HO HBk HBr HCB
          go_wp2_with fail
          go_loopw [6, 65] (fun v i wr => ∃ (k N : Nat) (zs : List Int) (a3 : Option Addr) (c3 : Nat), k ≤ p.aggs.length ∧ N ≤ 2097152 ∧ i = .int .i64 (k : Int) ∧ v = .slice a3 N c3 ∧ Hid (zs.length = N) ∧ Hid (N = p.cols.length + k) ∧ Hid (zs = cs ++ (p.aggs.take k).map (aggK ks)) ∧ Hid (OwnI wr wa.heap.size (.slice a3 N c3) zs) ∧ Hid ((p.aggs.take k).any (aggNo ks) = false) ∧ Hid (Below wa.heap.size wa wr)) (fun _ i _ => p.aggs.length - (intOf i).toNat)
          case atStart => exact ⟨0, p.cols.length, cs, a3, c3x, Nat.zero_le _, by omega, rfl, rfl, unhide HCL, rfl, (by show _ = _; simp), unhide HOd, (by show _ = _; rfl), unhide HBd⟩
          case round =>
            clear HOd HBd e5 c3
            obtain ⟨k, N, zs, a3, c3y, hk, hN, rfl, rfl, HZL, HN, HZS, HO, HM, HBk⟩ := hrel
            by_cases hlt : k < p.aggs.length
            · have h9 : (k : Int) < (p.aggs.length : Int) := by omega
              obtain ⟨x, hx⟩ : ∃ x, p.aggs[k]? = some x := ⟨_, List.getElem?_eq_getElem hlt⟩
              obtain ⟨b, off, ea, d0, d1⟩ := ((unhide HO4).a.later (unhide HBk)).get hx
              have HAX := hide (unhide HAB x (List.mem_of_getElem? hx))
              have HS1 := hide (any_step (p := aggNo ks) hx)
              have HT := hide (take_snocI (aggK ks) hx)
              have HX := hide hx
              obtain ⟨f, c⟩ := x
              simp only at d0 d1 HAX
              rw [ea]
              have hba := below_alloc (Below.refl _ wr) (.cells #[.int .i64 f, .int .i64 c] 100)
              have HBa := hide hba
              have HOa := hide ((unhide HO).later hba)
              have HKa := hide (((unhide HK).later (unhide HBk)).later hba)
              clear ea hx hba HO
              by_cases hf4 : f = 4
              · subst hf4
                obtain ⟨g1, g2⟩ := unhide HAX (by omega)
                obtain ⟨n, rfl⟩ : ∃ n : Nat, c = (n : Int) := ⟨c.toNat, by omega⟩
                have hn : n < ks.length := by omega
                obtain ⟨y, hy⟩ : ∃ y, ks[n]? = some y := ⟨_, List.getElem?_eq_getElem hn⟩
                have HAT : Hid (atK ks (n : Int) = y) := by show _ = _; unfold atK; rw [Int.toNat_natCast, hy]; rfl
                obtain ⟨b2, off2, ea2, d2⟩ := (unhide HKa).get hy
                rw [ea2]
                clear ea2 hy
                have HT2 : Hid (aggK ks (4, (n : Int)) = y) := by show _ = _; unfold aggK; exact unhide HAT
                have HM2 : Hid ((p.aggs.take (k + 1)).any (aggNo ks) = false) := by
                  show _ = _
                  rw [unhide HS1, unhide HM]
                  have : aggNo ks (4, (n : Int)) = false := rfl
                  rw [this]; rfl
                have HZS2 : Hid (zs ++ [y] = cs ++ (p.aggs.take (k + 1)).map (aggK ks)) := by show _ = _; rw [unhide HT, unhide HT2, unhide HZS, List.append_assoc]
                have HS := hide (own_single2 wr (.cells #[.int .i64 4, .int .i64 (n : Int)] 100) wa.heap.size (unhide HBk).size (y))
                have hbs := below_alloc (Below.refl _ (wr.alloc (.cells #[.int .i64 4, .int .i64 (n : Int)] 100))) (.cells #[.int .i64 y] 3)
                have HO1 := hide ((unhide HOa).later hbs)
                have HB1 := hide (below_step (unhide HBk) (below_step (unhide HBa) hbs))
                clear HM HS1 HT HT2 HZS HX HAX HOa HKa hbs HBa HBk
                go_wp2_with (at_builtin; refine wpList_push_ints _ rfl (.tmp 93) (.tmp 95) rfl wa.heap.size wa.heap.size _ _ zs [y] rfl (unhide HO1) rfl (unhide HS) (by rw [unhide HZL]; simp; omega) (unhide HB1).size ?_; intro v' w' hO' hB')
                obtain ⟨a4, c4, rfl⟩ := hO'.slice
                have e : (zs ++ [y]).length = N + 1 := by rw [List.length_append, unhide HZL]; rfl
                rw [e] at hO' ⊢
                exact ⟨⟨k + 1, N + 1, zs ++ [y], a4, c4, by omega, by have := unhide HN; omega, by go_num, rfl, e, (by show _ = _; have := unhide HN; omega), unhide HZS2, hO', unhide HM2, (unhide HB1).trans hB'⟩, by simp [intOf]; omega⟩
              by_cases hf5 : f = 5
              · subst hf5
                obtain ⟨g1, g2⟩ := unhide HAX (by omega)
                obtain ⟨n, rfl⟩ : ∃ n : Nat, c = (n : Int) := ⟨c.toNat, by omega⟩
                have hn : n < ks.length := by omega
                obtain ⟨y, hy⟩ : ∃ y, ks[n]? = some y := ⟨_, List.getElem?_eq_getElem hn⟩
                have HAT : Hid (atK ks (n : Int) = y) := by show _ = _; unfold atK; rw [Int.toNat_natCast, hy]; rfl
                obtain ⟨b2, off2, ea2, d2⟩ := (unhide HKa).get hy
                rw [ea2]
                clear ea2 hy
                have HT2 : Hid (aggK ks (5, (n : Int)) = y) := by show _ = _; unfold aggK; exact unhide HAT
                have HM2 : Hid ((p.aggs.take (k + 1)).any (aggNo ks) = false) := by
                  show _ = _
                  rw [unhide HS1, unhide HM]
                  have : aggNo ks (5, (n : Int)) = false := rfl
                  rw [this]; rfl
                have HZS2 : Hid (zs ++ [y] = cs ++ (p.aggs.take (k + 1)).map (aggK ks)) := by show _ = _; rw [unhide HT, unhide HT2, unhide HZS, List.append_assoc]
                have HS := hide (own_single2 wr (.cells #[.int .i64 5, .int .i64 (n : Int)] 100) wa.heap.size (unhide HBk).size (y))
                have hbs := below_alloc (Below.refl _ (wr.alloc (.cells #[.int .i64 5, .int .i64 (n : Int)] 100))) (.cells #[.int .i64 y] 3)
                have HO1 := hide ((unhide HOa).later hbs)
                have HB1 := hide (below_step (unhide HBk) (below_step (unhide HBa) hbs))
                clear HM HS1 HT HT2 HZS HX HAX HOa HKa hbs HBa HBk
                go_wp2_with (at_builtin; refine wpList_push_ints _ rfl (.tmp 93) (.tmp 95) rfl wa.heap.size wa.heap.size _ _ zs [y] rfl (unhide HO1) rfl (unhide HS) (by rw [unhide HZL]; simp; omega) (unhide HB1).size ?_; intro v' w' hO' hB')
                obtain ⟨a4, c4, rfl⟩ := hO'.slice
                have e : (zs ++ [y]).length = N + 1 := by rw [List.length_append, unhide HZL]; rfl
                rw [e] at hO' ⊢
                exact ⟨⟨k + 1, N + 1, zs ++ [y], a4, c4, by omega, by have := unhide HN; omega, by go_num, rfl, e, (by show _ = _; have := unhide HN; omega), unhide HZS2, hO', unhide HM2, (unhide HB1).trans hB'⟩, by simp [intOf]; omega⟩
              have b4 : (f == 4) = false := by simpa using hf4
              have b5 : (f == 5) = false := by simpa using hf5
              by_cases hf3 : f = 3
              · subst hf3
                obtain ⟨g1, g2⟩ := unhide HAX (by omega)
                obtain ⟨n, rfl⟩ : ∃ n : Nat, c = (n : Int) := ⟨c.toNat, by omega⟩
                have hn : n < ks.length := by omega
                obtain ⟨y, hy⟩ : ∃ y, ks[n]? = some y := ⟨_, List.getElem?_eq_getElem hn⟩
                have HAT : Hid (atK ks (n : Int) = y) := by show _ = _; unfold atK; rw [Int.toNat_natCast, hy]; rfl
                obtain ⟨b2, off2, ea2, d2⟩ := (unhide HKa).get hy
                rw [ea2]
                clear ea2 hy
                by_cases hy1 : y = 1
                · subst hy1
                  have HT2 : Hid (aggK ks (3, (n : Int)) = 1) := rfl
                  have HM2 : Hid ((p.aggs.take (k + 1)).any (aggNo ks) = false) := by
                    show _ = _
                    rw [unhide HS1, unhide HM]
                    have : aggNo ks (3, (n : Int)) = false := by unfold aggNo; simp only; rw [unhide HAT]; rfl
                    rw [this]; rfl
                  have HZS2 : Hid (zs ++ [1] = cs ++ (p.aggs.take (k + 1)).map (aggK ks)) := by show _ = _; rw [unhide HT, unhide HT2, unhide HZS, List.append_assoc]
                  have HS := hide (own_single2 wr (.cells #[.int .i64 3, .int .i64 (n : Int)] 100) wa.heap.size (unhide HBk).size (1))
                  have hbs := below_alloc (Below.refl _ (wr.alloc (.cells #[.int .i64 3, .int .i64 (n : Int)] 100))) (.cells #[.int .i64 1] 3)
                  have HO1 := hide ((unhide HOa).later hbs)
                  have HB1 := hide (below_step (unhide HBk) (below_step (unhide HBa) hbs))
                  clear HM HS1 HT HT2 HZS HX HAX HOa HKa hbs HBa HBk
                  go_wp2_with (at_builtin; refine wpList_push_ints _ rfl (.tmp 93) (.tmp 95) rfl wa.heap.size wa.heap.size _ _ zs [1] rfl (unhide HO1) rfl (unhide HS) (by rw [unhide HZL]; simp; omega) (unhide HB1).size ?_; intro v' w' hO' hB')
                  obtain ⟨a4, c4, rfl⟩ := hO'.slice
                  have e : (zs ++ [1]).length = N + 1 := by rw [List.length_append, unhide HZL]; rfl
                  rw [e] at hO' ⊢
                  exact ⟨⟨k + 1, N + 1, zs ++ [1], a4, c4, by omega, by have := unhide HN; omega, by go_num, rfl, e, (by show _ = _; have := unhide HN; omega), unhide HZS2, hO', unhide HM2, (unhide HB1).trans hB'⟩, by simp [intOf]; omega⟩
                · have by1 : (y != 1) = true := by simpa using hy1
                  have HZ : Hid (R = 4) := by
                    show _ = _
                    rw [unhide HR2, any_mem (p := aggNo ks) (unhide HX) (by unfold aggNo; simp only; rw [unhide HAT, by1]; rfl)]; rfl
                  clear HM HS1 HT HX HAX hy1
                  go_wp2
                  refine bodyPost_ret (v := .tuple #[.slice none 0 0, .int .i64 4]) (by simp [results, Tryz.results35, go_sem]) rfl ?_
                  rw [unhide HZ]; exact PjQ.err (by decide) (below_step (unhide HB) (below_step (unhide HBk) (unhide HBa)))
              have b3 : (f == 3) = false := by simpa using hf3
              have HT2 : Hid (aggK ks (f, c) = 1) := by show _ = _; unfold aggK; simp only; rw [b4, b5]; rfl
              have HM2 : Hid ((p.aggs.take (k + 1)).any (aggNo ks) = false) := by
                show _ = _
                rw [unhide HS1, unhide HM]
                have : aggNo ks (f, c) = false := by unfold aggNo; simp only; rw [b3]; rfl
                rw [this]; rfl
              have HZS2 : Hid (zs ++ [1] = cs ++ (p.aggs.take (k + 1)).map (aggK ks)) := by show _ = _; rw [unhide HT, unhide HT2, unhide HZS, List.append_assoc]
              have HS := hide (own_single2 wr (.cells #[.int .i64 f, .int .i64 c] 100) wa.heap.size (unhide HBk).size (1))
              have hbs := below_alloc (Below.refl _ (wr.alloc (.cells #[.int .i64 f, .int .i64 c] 100))) (.cells #[.int .i64 1] 3)
              have HO1 := hide ((unhide HOa).later hbs)
              have HB1 := hide (below_step (unhide HBk) (below_step (unhide HBa) hbs))
              clear hf3 hf4 hf5 HM HS1 HT HT2 HZS HX HAX HOa HKa hbs HBa HBk
              go_wp2_with (at_builtin; refine wpList_push_ints _ rfl (.tmp 93) (.tmp 95) rfl wa.heap.size wa.heap.size _ _ zs [1] rfl (unhide HO1) rfl (unhide HS) (by rw [unhide HZL]; simp; omega) (unhide HB1).size ?_; intro v' w' hO' hB')
              obtain ⟨a4, c4, rfl⟩ := hO'.slice
              have e : (zs ++ [1]).length = N + 1 := by rw [List.length_append, unhide HZL]; rfl
              rw [e] at hO' ⊢
              exact ⟨⟨k + 1, N + 1, zs ++ [1], a4, c4, by omega, by have := unhide HN; omega, by go_num, rfl, e, (by show _ = _; have := unhide HN; omega), unhide HZS2, hO', unhide HM2, (unhide HB1).trans hB'⟩, by simp [intOf]; omega⟩
            · have h9 : ¬ (k : Int) < (p.aggs.length : Int) := by omega
              obtain rfl : k = p.aggs.length := by omega
              rw [List.take_length] at HM HZS
              have HZ : Hid (R = 0) := by show _ = _; rw [unhide HR2, unhide HM]; rfl
              clear hk hlt HM
              go_wp2
              refine bodyPost_ret (v := .tuple #[.slice a3 N c3y, .int .i64 0]) (by simp [results, Tryz.results35, go_sem]) rfl ?_
              rw [unhide HZ]
              refine ⟨a3, c3y, zs, by rw [unhide HZL], ?_, fun _ => by rw [unhide HZS, unhide HGK], below_step (unhide HB) (unhide HBk)⟩
              rw [unhide HZL]
              exact (unhide HO).base_le (unhide HB).size
end Go.Proofs.YtcpndojkfngioaaGreat
set_option linter.unusedSimpArgs false
set_option linter.unusedVariables false
namespace Go.Proofs.YtcpndojkfngioaaGreat
open Go.RowKit Go.Sort

theorem ints_cells {w : World} {a : Option Addr} {xs : List Int} (h : IntsAt w a xs) {ad : Addr} (e : a = some ad) : ∀ j u, (xs.map (.int .i64))[j]? = some u → w.cell? (ad.add j) = some u := by
  intro j u hu
  rcases h with rfl | ⟨b, off, ha, h⟩
  · simp at hu
  · rw [e] at ha
    injection ha with ha
    subst ha
    rw [List.getElem?_map] at hu
    cases hx : xs[j]? with
    | none => rw [hx] at hu; simp at hu
    | some x =>
      rw [hx] at hu
      simp at hu
      subst hu
      have e : (⟨b, off, none⟩ : Addr).add j = ⟨b, off + j, none⟩ := by by_cases h : j = 0 <;> simp [Addr.add, h]
      rw [e]
      exact h j x hx
theorem ints_some {w : World} {a : Option Addr} {xs : List Int} (h : IntsAt w a xs) (h1 : 1 ≤ xs.length) : ¬ a = none := by
  rcases h with rfl | ⟨b, off, ha, h⟩
  · simp at h1
  · rw [ha]; simp
theorem run_append_nilc {w : World} (base : Nat) (ty e : TypeId) (i : TypeInfo) (size : Nat) (ht : Tryz.prog.underlying 23 = some (.slice e)) (hi : Tryz.prog.info? e = some i) (v : Value) (n : Nat) (xs : List Value) (hown : w.ownsRow base e size v n xs) (c : Nat) :
    (Builtin.append_ #[23, 23] ty #[v, .slice none 0 c]).run Tryz.prog w = .ok v w := by
  rcases hown.2 with ⟨rfl, rfl⟩ | ⟨g, cap, cur, rfl, _, _, hnc, _⟩
  · simp [Builtin.append_, run_underlying ht, sizeOf, typeInfo, hi, Builtin.lenOf, Builtin.firstCells]
  · simp [Builtin.append_, run_underlying ht, sizeOf, typeInfo, hi, Builtin.lenOf, Builtin.firstCells, hnc, storeCells]
/-- append of numbers that lie elsewhere. -/
theorem wpList_push_far {ops : Array Oper} {rest : List Oper} {o : Oper} {a : Act} {Q : Exit → Act → World → Prop} (w : World) (hgd : o.guard = none) (s x : Operand) (ho : o.op = .call { callee := .builtin .append, args := #[s, x], argTypes := #[23, 23] })
    (base : Nat) (v : Value) (L1 L2 : List Int) (aK : Option Addr) (cK : Nat) (hs : a.eval s = v) (hown : OwnI w base v L1) (hx : a.eval x = .slice aK L2.length cK) (hK : IntsAt w aK L2) (hl : L1.length + L2.length ≤ 4000000) (hbase : base ≤ w.heap.size)
    (h : ∀ v' w', OwnI w' base v' (L1 ++ L2) → Below base w w' → wpList Tryz.prog ops Q rest (a.put o.dst v') w') : wpList Tryz.prog ops Q (o :: rest) a w := by
  obtain ⟨i4, hi4, z40, z41, z42⟩ := info_parts info3
  cases hak : aK with
  | none =>
    have : L2 = [] := by
      rcases hK with h | ⟨b, off, ha, _⟩
      · exact h
      · rw [hak] at ha; cases ha
    subst this
    rw [hak] at hx
    refine wpList_plain hgd fun K hK => ?_
    have hrun := run_append_nilc (w := w) base o.type 3 i4 1 Tryz.underlying23 hi4 v L1.length _ hown cK
    unfold Oper.wp
    simp only [List.length_nil] at hx
    simp [execOp, ho, resolve, invoke, builtin, hs, hx, hrun, Result.andThen]
    exact hK _ _ (h v w (by rw [List.append_nil]; exact hown) (Below.refl _ _))
  | some ad =>
    rw [hak] at hx
    refine wpList_append_own_at w hgd s x 23 ho base 3 i4 (.int .i64 0) 1 8 Tryz.underlying23 hi4 z40 z41 z42 rfl (by decide) v L1.length (L1.map (.int .i64)) hs hown ad L2.length cK (L2.map (.int .i64)) hx (by simp) (ints_cells hK hak) (ints_one L2) (by unfold maxLen; omega) (by omega) hbase ?_
    intro v' w' h1 h2 _ _
    refine h v' w' ?_ (grown_below h2 hbase (own_ge hown))
    unfold OwnI
    rw [List.length_append, List.map_append]
    exact h1
theorem own_empty (W : World) (base : Nat) (hb : base ≤ W.heap.size) : OwnI (W.alloc (.cells #[] 3)) base (.slice (some ⟨W.heap.size, 0, none⟩) 0 0) [] :=
  ⟨rfl, .inr ⟨W.heap.size, 0, _, rfl, hb, Go.Deep.blk_alloc_new _ _, Nat.le_refl _, by unfold maxLen; omega, rfl, rfl⟩⟩
def winK (ks : List Int) (fn col : Int) : List Int := ks ++ [if fn == 6 then atK ks col else 1]
def winE (ks cols kc : List Int) (fn col : Int) : Int :=
  if cols.any (fun c => decide ((ks.length : Int) ≤ c)) || kc.any (fun c => decide ((ks.length : Int) ≤ c)) || (decide (4 ≤ fn) && decide ((ks.length : Int) ≤ col)) || decide (32 ≤ ks.length) then 1 else if fn == 4 && atK ks col != 1 then 4 else 0
set_option maxHeartbeats 4000000 in
set_option maxRecDepth 100000 in
/-- tallyref.windowed (36). -/
theorem windowed_any (ks : List Int) (hkl : ks.length ≤ 1048576) (hk1 : 1 ≤ ks.length) (aK : Option Addr) (cK : Nat) (p : Pl) (hf : p.fin) (m : Pm) (w : World) (ho : Own4 w p m) (hK : IntsAt w aK ks) (hcol : 4 ≤ p.fn → 0 ≤ p.col) :
    Calls Tryz.prog 36 #[p.val m, .slice aK ks.length cK] w (PjQ (winK ks p.fn p.col) (winE ks p.cols (p.keys.map Prod.fst) p.fn p.col) w) := by
  obtain ⟨⟨f1, f2, f3, f4, f5, f6, f7, fc, fk, fa⟩, _, _⟩ := Pl.fin_open hf
  obtain ⟨R, hR⟩ : ∃ R, R = winE ks p.cols (p.keys.map Prod.fst) p.fn p.col := ⟨_, rfl⟩
  rw [← hR]
  unfold winE at hR
  have hb0 := below_alloc (Below.refl _ w) (p.box m)
  have HE := hide (Elv.new w p m)
  have HB := hide hb0
  have HC := hide (beyond_any p.cols (ks.length : Int) m.aC m.cC (w.alloc (p.box m)) (by omega) (ho.c.later hb0))
  have HKC := hide (fun (W : World) (hW : Below w.heap.size w W) => keyCols_any p.keys m.aK m.cK W f4 (ho.k.later hW))
  have HKL : Hid ((p.keys.map Prod.fst).length ≤ 1048576) := by show _ ≤ _; rw [List.length_map]; omega
  have HK := hide (hK.later hb0)
  have HR := hide hR
  rw [Pl.val_open]
  unfold Pl.box at HE HB HC HK
  clear hR hb0 ho hf fc fk fa hK
  generalize p.keys.map Prod.fst = kc at *
  obtain ⟨wa, hwa⟩ : ∃ wa, wa = w.alloc (.cells #[.int .i64 p.op, .string p.tab, .slice m.aE p.ex.length m.cE, .slice m.aC p.cols.length m.cC, .slice m.aK p.keys.length m.cK, .slice m.aA p.aggs.length m.cA, .int .i64 p.fn, .int .i64 p.col, .int .i64 p.n, .int .i64 p.off, .slice m.aP p.args.length m.cP] 28) := ⟨_, rfl⟩
  rw [← hwa] at HE HB HC HK
  have HWA := hide hwa
  have hEl := unhide HE
  have c3 := hEl.c3
  have c6 := hEl.c6
  simp only [Nat.zero_add] at c3 c6
  clear hwa hEl
  cases hl : p.cols.any (fun c => decide ((ks.length : Int) ≤ c))
  case true =>
    rw [hl] at HC HR
    obtain rfl : R = 1 := unhide HR
    clear hl hcol
    by_cases h4 : 4 ≤ p.fn
    all_goals
      go_enter Tryz.func36, Tryz.ntmps36
      go_upto_region 1 with fail
      rw [← unhide HWA]
      go_wp2_with (go_at_call 37; refine (unhide HC).mono ?_; rintro r w1 ⟨rfl, hb1⟩)
      refine bodyPost_ret (v := .tuple #[.slice none 0 0, .int .i64 1]) (by simp [results, Tryz.results36, go_sem]) rfl ?_
      exact PjQ.err (by decide) (below_step (unhide HB) hb1)
  rw [hl] at HC HR
  clear hl
  cases hbk : kc.any (fun c => decide ((ks.length : Int) ≤ c))
  case true =>
    rw [hbk] at HR
    obtain rfl : R = 1 := unhide HR
    clear hcol
    by_cases h4 : 4 ≤ p.fn
    all_goals
      go_enter Tryz.func36, Tryz.ntmps36
      go_upto_region 1 with fail
      rw [← unhide HWA]
      go_wp2_with (first
        | (go_at_call 37; refine (unhide HBY).mono ?_; rintro r w3 ⟨rfl, hb3⟩; have hB3 := below_step (below_step hb1 hb2) hb3; have hEl := (unhide HE).later hB3; have g6 := hEl.c6; have g7 := hEl.c7; simp only [Nat.zero_add] at g6 g7; clear hEl)
        | (go_at_call 37; refine (unhide HC).mono ?_; rintro r w1 ⟨rfl, hb1⟩; have e4 := ((unhide HE).later hb1).c4; simp only [Nat.zero_add] at e4)
        | (go_at_call 38; refine (unhide HKC _ (below_step (unhide HB) hb1)).mono ?_; rintro r w2 ⟨a2, c2, rfl, hO2, hb2⟩; have HBY := hide (beyond_any kc (ks.length : Int) a2 c2 w2 (by have := unhide HKL; omega) hO2.ints); rw [hbk] at HBY))
      refine bodyPost_ret (v := .tuple #[.slice none 0 0, .int .i64 1]) (by simp [results, Tryz.results36, go_sem]) rfl ?_
      exact PjQ.err (by decide) (below_step (unhide HB) hB3)
  rw [hbk] at HR
  by_cases hout : 4 ≤ p.fn ∧ (ks.length : Int) ≤ p.col
  case pos =>
    obtain ⟨h4, hco⟩ := hout
    obtain rfl : R = 1 := by rw [unhide HR, decide_eq_true h4, decide_eq_true hco]; rfl
    clear hcol
    go_enter Tryz.func36, Tryz.ntmps36
    go_upto_region 1 with fail
    rw [← unhide HWA]
    go_wp2_with (first
      | (go_at_call 37; refine (unhide HBY).mono ?_; rintro r w3 ⟨rfl, hb3⟩; have hB3 := below_step (below_step hb1 hb2) hb3; have hEl := (unhide HE).later hB3; have g6 := hEl.c6; have g7 := hEl.c7; simp only [Nat.zero_add] at g6 g7; clear hEl)
      | (go_at_call 37; refine (unhide HC).mono ?_; rintro r w1 ⟨rfl, hb1⟩; have e4 := ((unhide HE).later hb1).c4; simp only [Nat.zero_add] at e4)
      | (go_at_call 38; refine (unhide HKC _ (below_step (unhide HB) hb1)).mono ?_; rintro r w2 ⟨a2, c2, rfl, hO2, hb2⟩; have HBY := hide (beyond_any kc (ks.length : Int) a2 c2 w2 (by have := unhide HKL; omega) hO2.ints); rw [hbk] at HBY))
    refine bodyPost_ret (v := .tuple #[.slice none 0 0, .int .i64 1]) (by simp [results, Tryz.results36, go_sem]) rfl ?_
    exact PjQ.err (by decide) (below_step (unhide HB) hB3)
  have HR2 : Hid (R = if 32 ≤ ks.length then 1 else if p.fn == 4 && atK ks p.col != 1 then 4 else 0) := by
    show _ = _
    have e : (decide (4 ≤ p.fn) && decide ((ks.length : Int) ≤ p.col)) = false := by
      rw [Bool.eq_false_iff]; intro h; simp only [Bool.and_eq_true, decide_eq_true_eq] at h; exact hout h
    rw [unhide HR, e]
    simp only [Bool.false_or, decide_eq_true_eq]
  clear HR
  by_cases h32 : 32 ≤ ks.length
  case pos =>
    obtain rfl : R = 1 := by rw [unhide HR2, if_pos h32]
    have h33 : (32 : Int) ≤ (ks.length : Int) := by omega
    clear hcol
    by_cases h4 : 4 ≤ p.fn
    · have hco : p.col < (ks.length : Int) := by omega
      clear hout
      go_enter Tryz.func36, Tryz.ntmps36
      go_upto_region 1 with fail
      rw [← unhide HWA]
      go_wp2_with (first
        | (go_at_call 37; refine (unhide HBY).mono ?_; rintro r w3 ⟨rfl, hb3⟩; have hB3 := below_step (below_step hb1 hb2) hb3; have hEl := (unhide HE).later hB3; have g6 := hEl.c6; have g7 := hEl.c7; simp only [Nat.zero_add] at g6 g7; clear hEl)
        | (go_at_call 37; refine (unhide HC).mono ?_; rintro r w1 ⟨rfl, hb1⟩; have e4 := ((unhide HE).later hb1).c4; simp only [Nat.zero_add] at e4)
        | (go_at_call 38; refine (unhide HKC _ (below_step (unhide HB) hb1)).mono ?_; rintro r w2 ⟨a2, c2, rfl, hO2, hb2⟩; have HBY := hide (beyond_any kc (ks.length : Int) a2 c2 w2 (by have := unhide HKL; omega) hO2.ints); rw [hbk] at HBY))
      refine bodyPost_ret (v := .tuple #[.slice none 0 0, .int .i64 1]) (by simp [results, Tryz.results36, go_sem]) rfl ?_
      exact PjQ.err (by decide) (below_step (unhide HB) hB3)
    · clear hout
      go_enter Tryz.func36, Tryz.ntmps36
      go_upto_region 1 with fail
      rw [← unhide HWA]
      go_wp2_with (first
        | (go_at_call 37; refine (unhide HBY).mono ?_; rintro r w3 ⟨rfl, hb3⟩; have hB3 := below_step (below_step hb1 hb2) hb3; have hEl := (unhide HE).later hB3; have g6 := hEl.c6; have g7 := hEl.c7; simp only [Nat.zero_add] at g6 g7; clear hEl)
        | (go_at_call 37; refine (unhide HC).mono ?_; rintro r w1 ⟨rfl, hb1⟩; have e4 := ((unhide HE).later hb1).c4; simp only [Nat.zero_add] at e4)
        | (go_at_call 38; refine (unhide HKC _ (below_step (unhide HB) hb1)).mono ?_; rintro r w2 ⟨a2, c2, rfl, hO2, hb2⟩; have HBY := hide (beyond_any kc (ks.length : Int) a2 c2 w2 (by have := unhide HKL; omega) hO2.ints); rw [hbk] at HBY))
      refine bodyPost_ret (v := .tuple #[.slice none 0 0, .int .i64 1]) (by simp [results, Tryz.results36, go_sem]) rfl ?_
      exact PjQ.err (by decide) (below_step (unhide HB) hB3)
  have HR3 : Hid (R = if p.fn == 4 && atK ks p.col != 1 then 4 else 0) := by show _ = _; rw [unhide HR2, if_neg h32]
  have h33 : (ks.length : Int) < 32 := by omega
  clear HR2 h32
  have HKK : Hid (winK ks p.fn p.col = ks ++ [if p.fn == 6 then atK ks p.col else 1]) := by show _ = _; rfl
  by_cases h4 : 4 ≤ p.fn
  case neg =>
    have b4 : (p.fn == 4) = false := by simp; omega
    have b6 : (p.fn == 6) = false := by simp; omega
    rw [b6] at HKK
    have HKK : Hid (winK ks p.fn p.col = ks ++ [1]) := HKK
    have HZ : Hid (R = 0) := by show _ = _; rw [unhide HR3, b4]; rfl
    clear hout hcol HR3
    go_enter Tryz.func36, Tryz.ntmps36
    go_upto_region 1 with fail
    rw [← unhide HWA]
    go_wp2_with (first
      | (at_builtin; refine wpList_push_ints _ rfl (.tmp 60) (.tmp 62) rfl wa.heap.size wa.heap.size _ _ ks [1] rfl (hO4.later (below_alloc (Below.refl _ w4) (.cells #[.int .i64 1] 3))) rfl (own_single w4 wa.heap.size hB4.size 1) (by simp; omega) (Nat.le_trans hB4.size (below_alloc (Below.refl _ w4) (.cells #[.int .i64 1] 3)).size) ?_; intro v' w' hO' hB'; have HB' := hide ((below_step hB4 (below_alloc (Below.refl _ w4) (.cells #[.int .i64 1] 3))).trans hB'))
      | (at_builtin; refine wpList_push_far _ rfl (.tmp 58) (.tmp 59) rfl wa.heap.size _ [] ks _ cK rfl (own_empty w3 wa.heap.size hB3.size) rfl (unhide HKX) (by simp; omega) (unhide HBX2).size ?_; intro v4 w4 hO4 hB4x; rw [List.nil_append] at hO4; have hB4 := (unhide HBX2).trans hB4x; clear hB4x)
      | (go_at_call 37; refine (unhide HBY).mono ?_; rintro r w3 ⟨rfl, hb3⟩; have hB3 := below_step (below_step hb1 hb2) hb3; have hEl := (unhide HE).later hB3; have g6 := hEl.c6; have g7 := hEl.c7; simp only [Nat.zero_add] at g6 g7; clear hEl; have HBX := hide (below_alloc (Below.refl _ w3) (.cells #[] 3)); have HKX := hide (((unhide HK).later hB3).later (unhide HBX)); have HBX2 := hide (below_step hB3 (unhide HBX)))
      | (go_at_call 37; refine (unhide HC).mono ?_; rintro r w1 ⟨rfl, hb1⟩; have e4 := ((unhide HE).later hb1).c4; simp only [Nat.zero_add] at e4)
      | (go_at_call 38; refine (unhide HKC _ (below_step (unhide HB) hb1)).mono ?_; rintro r w2 ⟨a2, c2, rfl, hO2, hb2⟩; have HBY := hide (beyond_any kc (ks.length : Int) a2 c2 w2 (by have := unhide HKL; omega) hO2.ints); rw [hbk] at HBY))
    refine bodyPost_ret (v := .tuple #[v', .int .i64 0]) (by simp [results, Tryz.results36, go_sem]) rfl ?_
    have hO5 := hO'.base_le (unhide HB).size
    obtain ⟨a5, c5, rfl⟩ := hO'.slice
    exact ⟨a5, c5, ks ++ [1], by rw [unhide HZ], hO5, fun _ => (unhide HKK).symm, below_step (unhide HB) (unhide HB')⟩
  have hco : p.col < (ks.length : Int) := by omega
  have hc0 := hcol h4
  clear hout hcol
  obtain ⟨n, hn⟩ : ∃ n : Nat, p.col = (n : Int) := ⟨p.col.toNat, by omega⟩
  rw [hn] at HKK HR3 HWA hco hc0
  rw [hn]
  have hnl : n < ks.length := by omega
  obtain ⟨y, hy⟩ : ∃ y, ks[n]? = some y := ⟨_, List.getElem?_eq_getElem hnl⟩
  have HAT : Hid (atK ks (n : Int) = y) := by show _ = _; unfold atK; rw [Int.toNat_natCast, hy]; rfl
  obtain ⟨b2, off2, ea2, d2⟩ := (unhide HK).get hy
  have HD2 := hide d2
  rw [ea2] at HK ⊢
  clear hy d2
  by_cases hf4 : p.fn = 4
  · rw [hf4] at HKK HR3 HWA c6
    rw [hf4]
    by_cases hy1 : y = 1
    · subst hy1
      have HZ : Hid (R = 0) := by show _ = _; rw [unhide HR3, unhide HAT]; rfl
      have HKK : Hid (winK ks 4 (n : Int) = ks ++ [1]) := HKK
      clear HR3 HAT ea2 h4
      go_enter Tryz.func36, Tryz.ntmps36
      go_upto_region 1 with fail
      rw [← unhide HWA]
      go_wp2_with (first
        | (at_builtin; refine wpList_push_ints _ rfl (.tmp 60) (.tmp 62) rfl wa.heap.size wa.heap.size _ _ ks [1] rfl (hO4.later (below_alloc (Below.refl _ w4) (.cells #[.int .i64 1] 3))) rfl (own_single w4 wa.heap.size hB4.size 1) (by simp; omega) (Nat.le_trans hB4.size (below_alloc (Below.refl _ w4) (.cells #[.int .i64 1] 3)).size) ?_; intro v' w' hO' hB'; have HB' := hide ((below_step hB4 (below_alloc (Below.refl _ w4) (.cells #[.int .i64 1] 3))).trans hB'))
        | (at_builtin; refine wpList_push_far _ rfl (.tmp 58) (.tmp 59) rfl wa.heap.size _ [] ks _ cK rfl (own_empty w3 wa.heap.size hB3.size) rfl (unhide HKX) (by simp; omega) (unhide HBX2).size ?_; intro v4 w4 hO4 hB4x; rw [List.nil_append] at hO4; have hB4 := (unhide HBX2).trans hB4x; clear hB4x)
        | (go_at_call 37; refine (unhide HBY).mono ?_; rintro r w3 ⟨rfl, hb3⟩; have hB3 := below_step (below_step hb1 hb2) hb3; have hEl := (unhide HE).later hB3; have g6 := hEl.c6; have g7 := hEl.c7; simp only [Nat.zero_add] at g6 g7; clear hEl; rw [hf4] at g6; rw [hn] at g7; have hd2 := clater (unhide HD2) hB3; have HBX := hide (below_alloc (Below.refl _ w3) (.cells #[] 3)); have HKX := hide (((unhide HK).later hB3).later (unhide HBX)); have HBX2 := hide (below_step hB3 (unhide HBX)))
        | (go_at_call 37; refine (unhide HC).mono ?_; rintro r w1 ⟨rfl, hb1⟩; have e4 := ((unhide HE).later hb1).c4; simp only [Nat.zero_add] at e4)
        | (go_at_call 38; refine (unhide HKC _ (below_step (unhide HB) hb1)).mono ?_; rintro r w2 ⟨a2, c2, rfl, hO2, hb2⟩; have HBY := hide (beyond_any kc (ks.length : Int) a2 c2 w2 (by have := unhide HKL; omega) hO2.ints); rw [hbk] at HBY))
      refine bodyPost_ret (v := .tuple #[v', .int .i64 0]) (by simp [results, Tryz.results36, go_sem]) rfl ?_
      have hO5 := hO'.base_le (unhide HB).size
      obtain ⟨a5, c5, rfl⟩ := hO'.slice
      exact ⟨a5, c5, ks ++ [1], by rw [unhide HZ], hO5, fun _ => (unhide HKK).symm, below_step (unhide HB) (unhide HB')⟩
    · have by1 : (y != 1) = true := by simpa using hy1
      have HZ : Hid (R = 4) := by show _ = _; rw [unhide HR3, unhide HAT, by1]; rfl
      clear HR3 HAT ea2 hy1 h4
      go_enter Tryz.func36, Tryz.ntmps36
      go_upto_region 1 with fail
      rw [← unhide HWA]
      go_wp2_with (first
        | (go_at_call 37; refine (unhide HBY).mono ?_; rintro r w3 ⟨rfl, hb3⟩; have hB3 := below_step (below_step hb1 hb2) hb3; have hEl := (unhide HE).later hB3; have g6 := hEl.c6; have g7 := hEl.c7; simp only [Nat.zero_add] at g6 g7; clear hEl; rw [hf4] at g6; rw [hn] at g7; have hd2 := clater (unhide HD2) hB3)
        | (go_at_call 37; refine (unhide HC).mono ?_; rintro r w1 ⟨rfl, hb1⟩; have e4 := ((unhide HE).later hb1).c4; simp only [Nat.zero_add] at e4)
        | (go_at_call 38; refine (unhide HKC _ (below_step (unhide HB) hb1)).mono ?_; rintro r w2 ⟨a2, c2, rfl, hO2, hb2⟩; have HBY := hide (beyond_any kc (ks.length : Int) a2 c2 w2 (by have := unhide HKL; omega) hO2.ints); rw [hbk] at HBY))
      refine bodyPost_ret (v := .tuple #[.slice none 0 0, .int .i64 4]) (by simp [results, Tryz.results36, go_sem]) rfl ?_
      rw [unhide HZ]; exact PjQ.err (by decide) (below_step (unhide HB) hB3)
  have b4 : (p.fn == 4) = false := by simpa using hf4
  have HZ : Hid (R = 0) := by show _ = _; rw [unhide HR3, b4]; rfl
  by_cases hf6 : p.fn = 6
  · rw [hf6] at HKK HWA c6
    rw [hf6]
    have HKK : Hid (winK ks 6 (n : Int) = ks ++ [y]) := by show _ = _; rw [unhide HKK, unhide HAT]; rfl
    clear HR3 HAT ea2 hf4 b4 h4
    go_enter Tryz.func36, Tryz.ntmps36
    go_upto_region 1 with fail
    rw [← unhide HWA]
    go_wp2_with (first
      | (at_builtin; refine wpList_push_ints _ rfl (.tmp 60) (.tmp 62) rfl wa.heap.size wa.heap.size _ _ ks [y] rfl (hO4.later (below_alloc (Below.refl _ w4) (.cells #[.int .i64 y] 3))) rfl (own_single w4 wa.heap.size hB4.size y) (by simp; omega) (Nat.le_trans hB4.size (below_alloc (Below.refl _ w4) (.cells #[.int .i64 y] 3)).size) ?_; intro v' w' hO' hB'; have HB' := hide ((below_step hB4 (below_alloc (Below.refl _ w4) (.cells #[.int .i64 y] 3))).trans hB'))
      | (at_builtin; refine wpList_push_far _ rfl (.tmp 58) (.tmp 59) rfl wa.heap.size _ [] ks _ cK rfl (own_empty w3 wa.heap.size hB3.size) rfl (unhide HKX) (by simp; omega) (unhide HBX2).size ?_; intro v4 w4 hO4 hB4x; rw [List.nil_append] at hO4; have hB4 := (unhide HBX2).trans hB4x; clear hB4x)
      | (go_at_call 37; refine (unhide HBY).mono ?_; rintro r w3 ⟨rfl, hb3⟩; have hB3 := below_step (below_step hb1 hb2) hb3; have hEl := (unhide HE).later hB3; have g6 := hEl.c6; have g7 := hEl.c7; simp only [Nat.zero_add] at g6 g7; clear hEl; rw [hf6] at g6; rw [hn] at g7; have hd2 := clater (unhide HD2) hB3; have HBX := hide (below_alloc (Below.refl _ w3) (.cells #[] 3)); have HKX := hide (((unhide HK).later hB3).later (unhide HBX)); have HBX2 := hide (below_step hB3 (unhide HBX)))
      | (go_at_call 37; refine (unhide HC).mono ?_; rintro r w1 ⟨rfl, hb1⟩; have e4 := ((unhide HE).later hb1).c4; simp only [Nat.zero_add] at e4)
      | (go_at_call 38; refine (unhide HKC _ (below_step (unhide HB) hb1)).mono ?_; rintro r w2 ⟨a2, c2, rfl, hO2, hb2⟩; have HBY := hide (beyond_any kc (ks.length : Int) a2 c2 w2 (by have := unhide HKL; omega) hO2.ints); rw [hbk] at HBY))
    refine bodyPost_ret (v := .tuple #[v', .int .i64 0]) (by simp [results, Tryz.results36, go_sem]) rfl ?_
    have hO5 := hO'.base_le (unhide HB).size
    obtain ⟨a5, c5, rfl⟩ := hO'.slice
    exact ⟨a5, c5, ks ++ [y], by rw [unhide HZ], hO5, fun _ => (unhide HKK).symm, below_step (unhide HB) (unhide HB')⟩
  have b6 : (p.fn == 6) = false := by simpa using hf6
  rw [b6] at HKK
  have HKK : Hid (winK ks p.fn (n : Int) = ks ++ [1]) := HKK
  clear HR3 HAT ea2 hf4 hf6
  go_enter Tryz.func36, Tryz.ntmps36
  go_upto_region 1 with fail
  rw [← unhide HWA]
  go_wp2_with (first
    | (at_builtin; refine wpList_push_ints _ rfl (.tmp 60) (.tmp 62) rfl wa.heap.size wa.heap.size _ _ ks [1] rfl (hO4.later (below_alloc (Below.refl _ w4) (.cells #[.int .i64 1] 3))) rfl (own_single w4 wa.heap.size hB4.size 1) (by simp; omega) (Nat.le_trans hB4.size (below_alloc (Below.refl _ w4) (.cells #[.int .i64 1] 3)).size) ?_; intro v' w' hO' hB'; have HB' := hide ((below_step hB4 (below_alloc (Below.refl _ w4) (.cells #[.int .i64 1] 3))).trans hB'))
    | (at_builtin; refine wpList_push_far _ rfl (.tmp 58) (.tmp 59) rfl wa.heap.size _ [] ks _ cK rfl (own_empty w3 wa.heap.size hB3.size) rfl (unhide HKX) (by simp; omega) (unhide HBX2).size ?_; intro v4 w4 hO4 hB4x; rw [List.nil_append] at hO4; have hB4 := (unhide HBX2).trans hB4x; clear hB4x)
    | (go_at_call 37; refine (unhide HBY).mono ?_; rintro r w3 ⟨rfl, hb3⟩; have hB3 := below_step (below_step hb1 hb2) hb3; have hEl := (unhide HE).later hB3; have g6 := hEl.c6; have g7 := hEl.c7; simp only [Nat.zero_add] at g6 g7; clear hEl; rw [hn] at g7; have hd2 := clater (unhide HD2) hB3; have HBX := hide (below_alloc (Below.refl _ w3) (.cells #[] 3)); have HKX := hide (((unhide HK).later hB3).later (unhide HBX)); have HBX2 := hide (below_step hB3 (unhide HBX)))
    | (go_at_call 37; refine (unhide HC).mono ?_; rintro r w1 ⟨rfl, hb1⟩; have e4 := ((unhide HE).later hb1).c4; simp only [Nat.zero_add] at e4)
    | (go_at_call 38; refine (unhide HKC _ (below_step (unhide HB) hb1)).mono ?_; rintro r w2 ⟨a2, c2, rfl, hO2, hb2⟩; have HBY := hide (beyond_any kc (ks.length : Int) a2 c2 w2 (by have := unhide HKL; omega) hO2.ints); rw [hbk] at HBY))
  refine bodyPost_ret (v := .tuple #[v', .int .i64 0]) (by simp [results, Tryz.results36, go_sem]) rfl ?_
  have hO5 := hO'.base_le (unhide HB).size
  obtain ⟨a5, c5, rfl⟩ := hO'.slice
  exact ⟨a5, c5, ks ++ [1], by rw [unhide HZ], hO5, fun _ => (unhide HKK).symm, below_step (unhide HB) (unhide HB')⟩
end Go.Proofs.YtcpndojkfngioaaGreat
set_option linter.unusedSimpArgs false
set_option linter.unusedVariables false
namespace Go.Proofs.YtcpndojkfngioaaGreat
open Go.RowKit Go.Sort

/-- The kinds of the first Arg, of the second. -/
def in0 (ins : List (List Int)) : List Int := (ins[0]?).getD []
def in1 (ins : List (List Int)) : List Int := (ins[1]?).getD []
def condP (ks : List Int) (p : Pl) : Int := match p.ex[0]? with
  | some e => condE ks e
  | none => 0
def joinE (ks : List Int) (p : Pl) : Int := if condP ks p != 1 && decide (32 < ks.length) then 1 else condP ks p
def tabE (ts : List Tb) (s : ByteArray) : Int × List Int := match ts.find? (fun t => decide (t.name = s)) with
  | some t => (0, t.cols.map Prod.snd)
  | none => (8, [])
/-- What a plan's own operator says, over the kinds of its Args: an error, the kinds. -/
def chkOp (ts : List Tb) (p : Pl) (ins : List (List Int)) : Int × List Int :=
  if p.op == 1 then tabE ts p.tab
  else if p.op == 12 then (0, p.cols)
  else if p.op == 8 || p.op == 11 then (if (ins.drop 1).any (fun k => !decide (k = in0 ins)) then 4 else 0, in0 ins)
  else if p.op == 2 then (condP (in0 ins) p, in0 ins)
  else if p.op == 3 then (projE (in0 ins) p.ex, projK (in0 ins) p.ex)
  else if p.op == 4 || p.op == 5 then (joinE (in0 ins ++ in1 ins) p, in0 ins ++ in1 ins)
  else if p.op == 6 then (grpE (in0 ins) p.cols p.aggs, grpK (in0 ins) p.cols p.aggs)
  else if p.op == 10 then (winE (in0 ins) p.cols (p.keys.map Prod.fst) p.fn p.col, winK (in0 ins) p.fn p.col)
  else if p.op == 9 then (if (p.keys.map Prod.fst).any (fun c => decide (((in0 ins).length : Int) ≤ c)) then 1 else 0, in0 ins)
  else (0, in0 ins)
mutual
/-- What is said of a plan: an error, the kinds. -/
def chkP (ts : List Tb) : Pl → Int × List Int
  | .mk op tab ex cols keys aggs fn col n o l => if (chkL ts l).1 = 0 then chkOp ts (.mk op tab ex cols keys aggs fn col n o l) (chkL ts l).2 else ((chkL ts l).1, [])
def chkL (ts : List Tb) : List Pl → Int × List (List Int)
  | [] => (0, [])
  | p :: l => if (chkP ts p).1 = 0 then ((chkL ts l).1, (chkP ts p).2 :: (chkL ts l).2) else ((chkP ts p).1, [])
end
theorem chkP_eq (ts : List Tb) (p : Pl) : chkP ts p = if (chkL ts p.args).1 = 0 then chkOp ts p (chkL ts p.args).2 else ((chkL ts p.args).1, []) := by cases p; rw [chkP]; rfl
theorem chkL_ok (ts : List Tb) : ∀ l : List Pl, (∀ (i : Nat) x, l[i]? = some x → (chkP ts x).1 = 0) → chkL ts l = (0, l.map fun x => (chkP ts x).2)
  | [], _ => by rw [chkL]; rfl
  | p :: l, h => by
    rw [chkL, if_pos (h 0 p rfl), chkL_ok ts l fun i x hx => h (i + 1) x (by simpa using hx)]
    rfl
theorem chkL_bad (ts : List Tb) : ∀ (l : List Pl) (k : Nat) (x : Pl), (∀ (i : Nat) y, i < k → l[i]? = some y → (chkP ts y).1 = 0) → l[k]? = some x → ¬ (chkP ts x).1 = 0 → (chkL ts l).1 = (chkP ts x).1
  | [], k, x, _, hx, _ => by simp at hx
  | p :: l, 0, x, _, hx, hn => by
    simp at hx
    subst hx
    rw [chkL, if_neg hn]
  | p :: l, k + 1, x, h, hx, hn => by
    rw [chkL, if_pos (h 0 p (by omega) rfl)]
    exact chkL_bad ts l k x (fun i y hi hy => h (i + 1) y (by omega) (by simpa using hy)) (by simpa using hx) hn
/-- Kinds of columns. -/
structure KOk (ks : List Int) : Prop where
  lo : 1 ≤ ks.length
  hi : ks.length ≤ 32
  k : ∀ k ∈ ks, k = 1 ∨ k = 2
theorem KOk.ofB {ks : List Int} (h : kindsB ks = true) : KOk ks := by
  unfold kindsB at h
  simp only [Bool.and_eq_true, decide_eq_true_eq, Bool.not_eq_true'] at h
  obtain ⟨⟨h1, h2⟩, h3⟩ := h
  refine ⟨h1, h2, fun k hk => ?_⟩
  have := any_out h3 hk
  unfold noKP at this
  simp only [Bool.and_eq_false_iff, bne_eq_false_iff_eq] at this
  exact this
theorem KOk.at {ks : List Int} (h : KOk ks) {c : Int} (h0 : 0 ≤ c) (h1 : c < (ks.length : Int)) : atK ks c = 1 ∨ atK ks c = 2 := by
  unfold atK
  obtain ⟨n, rfl⟩ : ∃ n : Nat, c = (n : Int) := ⟨c.toNat, by omega⟩
  rw [Int.toNat_natCast]
  have hn : n < ks.length := by omega
  rw [List.getElem?_eq_getElem hn]
  exact h.k _ (List.getElem_mem hn)
def K3 (k : Int) : Prop := k = 0 ∨ k = 1 ∨ k = 2
theorem getD_K3 {l : List Int} (h : ∀ x ∈ l, K3 x) (i : Nat) : K3 (l.getD i 0) := by
  rw [List.getD_eq_getElem?_getD]
  cases e : l[i]? with
  | none => exact .inl rfl
  | some x => exact h x (List.mem_of_getElem? e)
theorem kOf_K3 (op : Int) {l : List Int} (h : ∀ x ∈ l, K3 x) : K3 (kOf op l).1 := by
  have hc : ∀ a b : Int, K3 a → K3 b → K3 (comm a b).1 := by
    intro a b ha hb
    unfold comm
    split
    · exact hb
    · exact ha
  unfold kOf
  split
  · exact .inr (.inl rfl)
  split
  · exact .inr (.inl rfl)
  split
  · exact .inr (.inr rfl)
  split
  · exact .inr (.inl rfl)
  split
  · exact hc _ _ (getD_K3 h 1) (getD_K3 h 2)
  · exact .inr (.inl rfl)
mutual
theorem kE_K3 (ks : List Int) (hks : ∀ k ∈ ks, K3 k) : ∀ (e : Ex) {y : Int}, kE ks e = some y → K3 y
  | .mk op n v l, y, h => by
    rw [kE] at h
    split at h
    · injection h with h
      rw [← h]
      exact getD_K3 hks _
    split at h
    · injection h with h
      rw [← h]
      unfold cleanV
      split
      · exact .inr (.inl rfl)
      split
      · exact .inr (.inr rfl)
      · exact .inl rfl
    · split at h
      · rename_i d hd
        split at h
        · injection h with h
          rw [← h]
          exact kOf_K3 op (kL_K3 ks hks l hd)
        · cases h
      · cases h
theorem kL_K3 (ks : List Int) (hks : ∀ k ∈ ks, K3 k) : ∀ (l : List Ex) {d : List Int}, kL ks l = some d → ∀ x ∈ d, K3 x
  | [], d, h => by
    rw [kL] at h
    injection h with h
    rw [← h]
    intro x hx
    cases hx
  | e :: l, d, h => by
    rw [kL] at h
    split at h
    · rename_i k hk
      split at h
      · rename_i d' hd
        injection h with h
        rw [← h]
        intro x hx
        rcases List.mem_cons.1 hx with rfl | hx
        · exact kE_K3 ks hks e hk
        · exact kL_K3 ks hks l hd x hx
      · cases h
    · cases h
end
theorem kK_K3 {ks : List Int} (h : KOk ks) (e : Ex) : K3 (kK ks e) := by
  unfold kK
  split
  · cases e' : kE ks e with
    | none => exact .inl rfl
    | some y => exact kE_K3 ks (fun k hk => .inr (h.k k hk)) e e'
  · exact .inl rfl
theorem kind_max {k : Int} (h : K3 k) : max k 1 = 1 ∨ max k 1 = 2 := by
  rcases h with rfl | rfl | rfl
  · exact .inl rfl
  · exact .inl rfl
  · exact .inr rfl
/-- What a good plan's parts are. -/
structure Need (p : Pl) : Prop where
  a : argsB p = true
  n : needsB p = true
theorem sound_need {p : Pl} (h : soundP p = true) : Need p := by
  unfold soundP at h
  simp only [Bool.and_eq_true] at h
  exact ⟨h.1.1, h.1.2⟩
theorem colsB_nat {xs : List Int} (h : colsB xs = true) : ∀ x ∈ xs, 0 ≤ x := by
  unfold colsB at h
  simp only [Bool.and_eq_true, Bool.not_eq_true'] at h
  intro x hx
  have := any_out h.1 hx
  simp only [decide_eq_false_iff_not] at this
  omega
theorem aggs_nat {xs : List (Int × Int)} (h : xs.any noAgg = false) : ∀ x ∈ xs, 0 ≤ x.2 ∧ (x.1 = 1 → x.2 = 0) := by
  intro x hx
  have := any_out h hx
  unfold noAgg at this
  simp only [Bool.or_eq_false_iff, decide_eq_false_iff_not, Bool.and_eq_false_iff, beq_eq_false_iff_ne, bne_eq_false_iff_eq] at this
  obtain ⟨⟨⟨h1, h2⟩, h3⟩, h4⟩ := this
  exact ⟨by omega, fun e => by rcases h4 with h4 | h4; · exact absurd e h4
                               · exact h4⟩
theorem need1 {p : Pl} (o : p.op = 1) (h : Need p) : p.args.length = 0 := by have h1 := h.a; unfold argsB at h1; rw [o] at h1; simpa using h1
theorem need12 {p : Pl} (o : p.op = 12) (h : Need p) : p.args.length = 0 ∧ kindsB p.cols = true := by
  have h1 := h.a; unfold argsB at h1; have h2 := h.n; unfold needsB at h2; rw [o] at h1 h2; exact ⟨by simpa using h1, h2⟩
theorem need8 {p : Pl} (o : p.op = 8) (h : Need p) : 1 ≤ p.args.length := by have h1 := h.a; unfold argsB at h1; rw [o] at h1; simpa using h1
theorem need11 {p : Pl} (o : p.op = 11) (h : Need p) : p.args.length = 2 := by have h1 := h.a; unfold argsB at h1; rw [o] at h1; simpa using h1
theorem need2 {p : Pl} (o : p.op = 2) (h : Need p) : p.args.length = 1 ∧ p.ex.length = 1 := by
  have h1 := h.a; unfold argsB at h1; have h2 := h.n; unfold needsB at h2; rw [o] at h1 h2; exact ⟨by simpa using h1, by simpa using h2⟩
theorem need4 {p : Pl} (o : p.op = 4) (h : Need p) : p.args.length = 2 ∧ p.ex.length = 1 := by
  have h1 := h.a; unfold argsB at h1; have h2 := h.n; unfold needsB at h2; rw [o] at h1 h2; exact ⟨by simpa using h1, by simpa using h2⟩
theorem need5 {p : Pl} (o : p.op = 5) (h : Need p) : p.args.length = 2 ∧ p.ex.length = 1 := by
  have h1 := h.a; unfold argsB at h1; have h2 := h.n; unfold needsB at h2; rw [o] at h1 h2; exact ⟨by simpa using h1, by simpa using h2⟩
theorem need3 {p : Pl} (o : p.op = 3) (h : Need p) : p.args.length = 1 ∧ 1 ≤ p.ex.length ∧ p.ex.length ≤ 32 := by
  have h1 := h.a; unfold argsB at h1; have h2 := h.n; unfold needsB at h2; rw [o] at h1 h2
  have h3 : (decide (1 ≤ p.ex.length) && decide (p.ex.length ≤ 32)) = true := h2
  simp only [Bool.and_eq_true, decide_eq_true_eq] at h3
  exact ⟨by simpa using h1, h3.1, h3.2⟩
theorem need6 {p : Pl} (o : p.op = 6) (h : Need p) : p.args.length = 1 ∧ 1 ≤ p.cols.length + p.aggs.length ∧ (∀ x ∈ p.cols, 0 ≤ x) ∧ ∀ x ∈ p.aggs, 0 ≤ x.2 ∧ (x.1 = 1 → x.2 = 0) := by
  have h1 := h.a; unfold argsB at h1; have h2 := h.n; unfold needsB at h2; rw [o] at h1 h2
  have h3 : (decide (1 ≤ p.cols.length + p.aggs.length) && colsB p.cols && !p.aggs.any noAgg) = true := h2
  simp only [Bool.and_eq_true, decide_eq_true_eq, Bool.not_eq_true'] at h3
  exact ⟨by simpa using h1, h3.1.1, colsB_nat h3.1.2, aggs_nat h3.2⟩
theorem need7 {p : Pl} (o : p.op = 7) (h : Need p) : p.args.length = 1 := by have h1 := h.a; unfold argsB at h1; rw [o] at h1; simpa using h1
theorem need9 {p : Pl} (o : p.op = 9) (h : Need p) : p.args.length = 1 := by have h1 := h.a; unfold argsB at h1; rw [o] at h1; simpa using h1
theorem need10 {p : Pl} (o : p.op = 10) (h : Need p) : p.args.length = 1 ∧ 0 ≤ p.col ∧ (p.fn < 4 → p.col = 0) := by
  have h1 := h.a; unfold argsB at h1; have h2 := h.n; unfold needsB at h2; rw [o] at h1 h2
  have h3 : (colsB p.cols && colsB (p.keys.map Prod.fst) && winB p.fn p.col p.n) = true := h2
  simp only [Bool.and_eq_true] at h3
  have h4 := h3.2
  unfold winB at h4
  refine ⟨by simpa using h1, ?_⟩
  split at h4
  · simp only [Bool.and_eq_true, beq_iff_eq] at h4
    exact ⟨by omega, fun _ => h4.1⟩
  split at h4
  · rename_i hb
    simp only [decide_eq_true_eq] at h4
    simp only [Bool.or_eq_true, beq_iff_eq] at hb
    exact ⟨h4, fun _ => by omega⟩
  split at h4
  · rename_i hb
    simp only [Bool.and_eq_true, decide_eq_true_eq] at h4
    simp only [beq_iff_eq] at hb
    exact ⟨h4.1, fun _ => by omega⟩
  · cases h4
theorem need_op {p : Pl} (h : Need p) : p.op = 1 ∨ p.op = 2 ∨ p.op = 3 ∨ p.op = 4 ∨ p.op = 5 ∨ p.op = 6 ∨ p.op = 7 ∨ p.op = 8 ∨ p.op = 9 ∨ p.op = 10 ∨ p.op = 11 ∨ p.op = 12 := by
  have h2 := h.n
  unfold needsB at h2
  generalize p.op = o at *
  simp only [Bool.or_eq_true, beq_iff_eq] at h2
  by_cases h1 : o = 1; · omega
  by_cases h2' : o = 2 ∨ o = 4 ∨ o = 5; · omega
  by_cases h3 : o = 3; · omega
  by_cases h6 : o = 6; · omega
  by_cases h7 : o = 7 ∨ o = 8 ∨ o = 11; · omega
  by_cases h9 : o = 9; · omega
  by_cases h10 : o = 10; · omega
  by_cases h12 : o = 12; · omega
  rw [if_neg h1, if_neg (by omega), if_neg h3, if_neg h6, if_neg (by omega), if_neg h9, if_neg h10, if_neg h12] at h2
  cases h2
theorem in0_ok {ins : List (List Int)} (h : ∀ k ∈ ins, KOk k) (hl : 1 ≤ ins.length) : KOk (in0 ins) := by
  unfold in0
  rw [List.getElem?_eq_getElem (show 0 < ins.length by omega)]
  exact h _ (List.getElem_mem _)
theorem in1_ok {ins : List (List Int)} (h : ∀ k ∈ ins, KOk k) (hl : 2 ≤ ins.length) : KOk (in1 ins) := by
  unfold in1
  rw [List.getElem?_eq_getElem (show 1 < ins.length by omega)]
  exact h _ (List.getElem_mem _)
theorem well_tab {ts : List Tb} (h : wellB ts = true) {t : Tb} (ht : t ∈ ts) : kindsB (t.cols.map Prod.snd) = true := by
  unfold wellB at h
  simp only [Bool.and_eq_true, Bool.not_eq_true'] at h
  have := any_out h.1 ht
  simp only [Bool.not_eq_false'] at this
  unfold colsGood at this
  simp only [Bool.and_eq_true] at this
  exact this.1
theorem join_ok {ins : List (List Int)} {p : Pl} (hi : ∀ k ∈ ins, KOk k) (hl : 2 ≤ ins.length) (h0 : joinE (in0 ins ++ in1 ins) p = 0) : KOk (in0 ins ++ in1 ins) := by
  have ha := in0_ok hi (by omega)
  have hb := in1_ok hi hl
  refine ⟨by rw [List.length_append]; have := ha.lo; omega, ?_, fun k hk => ?_⟩
  · unfold joinE at h0
    split at h0
    · cases h0
    · rename_i hc
      simp only [Bool.and_eq_true, bne_iff_ne, decide_eq_true_eq, not_and] at hc
      have := hc (by rw [h0]; decide)
      omega
  · rcases List.mem_append.1 hk with h | h
    · exact ha.k k h
    · exact hb.k k h
theorem grp_ok {ks cols : List Int} {aggs : List (Int × Int)} (hk : KOk ks) (h1 : 1 ≤ cols.length + aggs.length) (hc : ∀ x ∈ cols, 0 ≤ x) (ha : ∀ x ∈ aggs, 0 ≤ x.2 ∧ (x.1 = 1 → x.2 = 0)) (h0 : grpE ks cols aggs = 0) : KOk (grpK ks cols aggs) := by
  unfold grpE at h0
  split at h0
  · cases h0
  · rename_i hn
    simp only [Bool.or_eq_true, decide_eq_true_eq, not_or, Bool.not_eq_true] at hn
    obtain ⟨⟨q1, q2⟩, q3⟩ := hn
    refine ⟨by unfold grpK; simp; omega, by unfold grpK; simp; omega, fun k hm => ?_⟩
    unfold grpK at hm
    rcases List.mem_append.1 hm with h | h
    · obtain ⟨x, hx, rfl⟩ := List.mem_map.1 h
      have := any_out q1 hx
      simp only [decide_eq_false_iff_not] at this
      exact hk.at (hc x hx) (by omega)
    · obtain ⟨x, hx, rfl⟩ := List.mem_map.1 h
      unfold aggK
      split
      · rename_i hf
        have := any_out q3 hx
        unfold aggOut at this
        simp only [Bool.or_eq_true, beq_iff_eq] at hf
        have b1 : (x.1 != 1) = true := by simp; omega
        rw [b1, Bool.true_and, decide_eq_false_iff_not] at this
        exact hk.at (ha x hx).1 (by omega)
      · exact .inl rfl
theorem win_ok {ks cols kc : List Int} {fn col : Int} (hk : KOk ks) (h0c : 0 ≤ col) (h0 : winE ks cols kc fn col = 0) : KOk (winK ks fn col) := by
  unfold winE at h0
  split at h0
  · cases h0
  · rename_i hn
    simp only [Bool.or_eq_true, Bool.and_eq_true, decide_eq_true_eq, not_or, Bool.not_eq_true, not_and] at hn
    obtain ⟨⟨⟨q1, q2⟩, q3⟩, q4⟩ := hn
    refine ⟨by unfold winK; simp, by unfold winK; simp; omega, fun k hm => ?_⟩
    unfold winK at hm
    rcases List.mem_append.1 hm with h | h
    · exact hk.k k h
    · simp only [List.mem_singleton] at h
      rw [h]
      split
      · rename_i hf
        simp only [beq_iff_eq] at hf
        have := q3 (by omega)
        exact hk.at h0c (by omega)
      · exact .inl rfl
theorem chkOp_ok {ts : List Tb} (hw : wellB ts = true) {p : Pl} (hn : Need p) {ins : List (List Int)} (hi : ∀ k ∈ ins, KOk k) (hl : ins.length = p.args.length) (h0 : (chkOp ts p ins).1 = 0) : KOk (chkOp ts p ins).2 := by
  rcases need_op hn with o | o | o | o | o | o | o | o | o | o | o | o
  · have e : chkOp ts p ins = tabE ts p.tab := by unfold chkOp; rw [o]; rfl
    rw [e] at h0 ⊢
    unfold tabE at h0 ⊢
    cases hf : ts.find? (fun t => decide (t.name = p.tab)) with
    | none => rw [hf] at h0; cases h0
    | some t => exact KOk.ofB (well_tab hw (List.mem_of_find?_eq_some hf))
  · have e : chkOp ts p ins = (condP (in0 ins) p, in0 ins) := by unfold chkOp; rw [o]; rfl
    rw [e]
    exact in0_ok hi (by have := (need2 o hn).1; omega)
  · have e : chkOp ts p ins = (projE (in0 ins) p.ex, projK (in0 ins) p.ex) := by unfold chkOp; rw [o]; rfl
    rw [e]
    obtain ⟨h1, h2, h3⟩ := need3 o hn
    have hk := in0_ok hi (by omega)
    refine ⟨by unfold projK; simpa using h2, by unfold projK; simpa using h3, ?_⟩
    intro k hk'
    unfold projK at hk'
    obtain ⟨x, _, rfl⟩ := List.mem_map.1 hk'
    exact kind_max (kK_K3 hk x)
  all_goals try (have e : chkOp ts p ins = (joinE (in0 ins ++ in1 ins) p, in0 ins ++ in1 ins) := (by unfold chkOp; rw [o]; rfl))
  · rw [e] at h0 ⊢
    obtain ⟨h1, h2⟩ := need4 o hn
    exact join_ok hi (by omega) h0
  · rw [e] at h0 ⊢
    obtain ⟨h1, h2⟩ := need5 o hn
    exact join_ok hi (by omega) h0
  · have e : chkOp ts p ins = (grpE (in0 ins) p.cols p.aggs, grpK (in0 ins) p.cols p.aggs) := by unfold chkOp; rw [o]; rfl
    rw [e] at h0 ⊢
    obtain ⟨h1, h2, h3, h4⟩ := need6 o hn
    exact grp_ok (in0_ok hi (by omega)) h2 h3 h4 h0
  · have e : chkOp ts p ins = (0, in0 ins) := by unfold chkOp; rw [o]; rfl
    rw [e]
    exact in0_ok hi (by have := need7 o hn; omega)
  · have e : (chkOp ts p ins).2 = in0 ins := by unfold chkOp; rw [o]; rfl
    rw [e]
    exact in0_ok hi (by have := need8 o hn; omega)
  · have e : (chkOp ts p ins).2 = in0 ins := by unfold chkOp; rw [o]; rfl
    rw [e]
    exact in0_ok hi (by have := need9 o hn; omega)
  · have e : chkOp ts p ins = (winE (in0 ins) p.cols (p.keys.map Prod.fst) p.fn p.col, winK (in0 ins) p.fn p.col) := by unfold chkOp; rw [o]; rfl
    rw [e] at h0 ⊢
    obtain ⟨h1, h2, h3⟩ := need10 o hn
    exact win_ok (in0_ok hi (by omega)) h2 h0
  · have e : (chkOp ts p ins).2 = in0 ins := by unfold chkOp; rw [o]; rfl
    rw [e]
    exact in0_ok hi (by have := need11 o hn; omega)
  · have e : chkOp ts p ins = (0, p.cols) := by unfold chkOp; rw [o]; rfl
    rw [e]
    exact KOk.ofB (need12 o hn).2
theorem chkP_ok {ts : List Tb} (hw : wellB ts = true) : ∀ (k : Nat) (p : Pl), p.size ≤ k → bltP p = true → (chkP ts p).1 = 0 → KOk (chkP ts p).2
  | 0, p, hs, _, _ => by rw [Pl.size_mk] at hs; omega
  | k + 1, p, hs, hb, h0 => by
    rw [chkP_eq] at h0 ⊢
    have hb' := hb
    rw [bltP_eq] at hb'
    simp only [Bool.and_eq_true, Bool.not_eq_true'] at hb'
    obtain ⟨⟨h1, _⟩, h2⟩ := hb'
    by_cases hl : (chkL ts p.args).1 = 0
    · rw [if_pos hl] at h0 ⊢
      have hall : ∀ (i : Nat) x, p.args[i]? = some x → (chkP ts x).1 = 0 := by
        intro i
        induction i using Nat.strongRecOn with
        | _ i ih =>
          intro x hx
          by_cases hz : (chkP ts x).1 = 0
          · exact hz
          · have := chkL_bad ts p.args i x (fun j y hj hy => ih j hj y hy) hx hz
            rw [hl] at this
            exact this.symm
      rw [chkL_ok ts p.args hall] at h0 ⊢
      refine chkOp_ok hw (sound_need h1) ?_ (by simp) h0
      intro k' hk'
      obtain ⟨x, hx, rfl⟩ := List.mem_map.1 hk'
      obtain ⟨i, hi, rfl⟩ := List.mem_iff_getElem.1 hx
      have hbx : bltP p.args[i] = true := by
        have := any_out h2 (List.getElem_mem hi)
        simpa using this
      exact chkP_ok hw k _ (by have := Pl.size_arg (List.getElem?_eq_getElem hi); omega) hbx (hall i _ (List.getElem?_eq_getElem hi))
    · rw [if_neg hl] at h0
      exact absurd h0 hl
end Go.Proofs.YtcpndojkfngioaaGreat
set_option linter.unusedSimpArgs false
set_option linter.unusedVariables false
namespace Go.Proofs.YtcpndojkfngioaaGreat
open Go.RowKit Go.Sort

/-- A list of numbers that lies somewhere. -/
abbrev Ls := Option Addr × Nat × List Int
def Ls.v (x : Ls) : Value := .slice x.1 x.2.2.length x.2.1
theorem info23K : (Tryz.prog.info? 23).map (fun i => (i.zero, i.size, i.bytes)) = some (some (.slice none 0 0), 1, 24) := by kernel_rfl
/-- A list of lists, in a row of the call's own. -/
structure InL (w : World) (base : Nat) (v : Value) (xs : List Ls) : Prop where
  o : w.ownsRow base 23 1 v xs.length (xs.map Ls.v)
  k : ∀ x ∈ xs, IntsAt w x.1 x.2.2
  n : ∀ x ∈ xs, ∀ b off, x.1 = some ⟨b, off, none⟩ → ¬ x.2.2 = [] → ¬ some b = v.ownBlock
theorem InL.later {w w1 : World} {base : Nat} {v : Value} {xs : List Ls} (h : InL w base v xs) (hb : Below w.heap.size w w1) : InL w1 base v xs := ⟨own_later h.o hb, fun x hx => (h.k x hx).later hb, h.n⟩
theorem IntsAt.grown {w w' : World} {a : Option Addr} {l : List Int} {row : Option Nat} (h : IntsAt w a l) (hg : w.grownBy w' row) (hn : ∀ b off, a = some ⟨b, off, none⟩ → ¬ l = [] → ¬ some b = row) : IntsAt w' a l := by
  rcases h with h | ⟨b, off, ha, h⟩
  · exact .inl h
  · by_cases hl : l = []
    · exact .inl hl
    · refine .inr ⟨b, off, ha, fun i x hx => ?_⟩
      have hc := h i x hx
      rw [World.cell?_of_block (w := w) (w' := w') (hg.block b (World.block_lt_of_cell? _ _ hc) (hn b off ha hl))]
      exact hc
theorem inL_nil (w : World) (base : Nat) : InL w base (.slice none 0 0) [] := ⟨World.ownsRow_nil _ _ _ _, (fun x hx => by cases hx), fun x hx => by cases hx⟩
theorem InL.slice {w : World} {base : Nat} {v : Value} {L : List Ls} (h : InL w base v L) : ∃ a cap, v = .slice a L.length cap := by
  rcases h.o.2 with ⟨rfl, h0⟩ | ⟨g, cap, cur, rfl, _⟩
  · have : L = [] := List.eq_nil_of_length_eq_zero h0
    subst this
    exact ⟨none, 0, rfl⟩
  · exact ⟨_, cap, rfl⟩
theorem InL.get {w : World} {base n cap i : Nat} {a : Option Addr} {L : List Ls} {x : Ls} (h : InL w base (.slice a n cap) L) (hx : L[i]? = some x) : ∃ g, a = some ⟨g, 0, none⟩ ∧ w.cell? ⟨g, i, none⟩ = some (.slice x.1 x.2.2.length x.2.1) ∧ IntsAt w x.1 x.2.2 ∧ base ≤ g := by
  have hk := h.k x (List.mem_of_getElem? hx)
  rcases h.o.2 with ⟨e, h0⟩ | ⟨g, cap', cur, e, hb, _⟩
  · have : L = [] := List.eq_nil_of_length_eq_zero h0
    rw [this] at hx
    simp at hx
  · injection e with e1 e2 e3
    subst e1
    refine ⟨g, rfl, ?_, hk, hb⟩
    subst e3
    have hc := World.ownsRow.cells h.o rfl i (Ls.v x) (by rw [List.getElem?_map, hx]; rfl)
    have ea : (⟨g, 0, none⟩ : Addr).add i = ⟨g, i, none⟩ := by
      by_cases h : i = 0 <;> simp [Addr.add, h]
    rw [ea] at hc
    exact hc
theorem ls_one (xs : List Ls) : ∀ u ∈ xs.map Ls.v, u.oneCell' = true := by
  intro u hu
  obtain ⟨x, _, rfl⟩ := List.mem_map.1 hu
  rfl
theorem inL_ge {w : World} {base : Nat} {v : Value} {L : List Ls} (h : InL w base v L) : ∀ g, v.ownBlock = some g → base ≤ g := by
  intro g hg
  rcases h.o.2 with ⟨rfl, _⟩ | ⟨g', cap, cur, rfl, hb, _⟩
  · simp [Value.ownBlock] at hg
  · simp [Value.ownBlock] at hg
    subst hg
    exact hb
/-- append of one list to a list of lists. -/
theorem wpList_push_ls {ops : Array Oper} {rest : List Oper} {o : Oper} {a : Act} {Q : Exit → Act → World → Prop} (w : World) (hgd : o.guard = none) (s x : Operand) (ho : o.op = .call { callee := .builtin .append, args := #[s, x], argTypes := #[71, 71] })
    (base : Nat) (v : Value) (L : List Ls) (y : Ls) (g c : Nat) (hs : a.eval s = v) (hown : InL w base v L) (hx : a.eval x = .slice (some ⟨g, 0, none⟩) 1 c) (hc : w.cell? ⟨g, 0, none⟩ = some (.slice y.1 y.2.2.length y.2.1)) (hy : IntsAt w y.1 y.2.2) (hyn : ∀ b off, y.1 = some ⟨b, off, none⟩ → ¬ y.2.2 = [] → ¬ some b = v.ownBlock) (hl : L.length ≤ 2000000) (hbase : base ≤ w.heap.size)
    (h : ∀ v' w', InL w' base v' (L ++ [y]) → Below base w w' → wpList Tryz.prog ops Q rest (a.put o.dst v') w') : wpList Tryz.prog ops Q (o :: rest) a w := by
  obtain ⟨i4, hi4, z40, z41, z42⟩ := info_parts info23K
  refine wpList_append_own_at w hgd s x 71 ho base 23 i4 (.slice none 0 0) 1 24 Tryz.underlying71 hi4 z40 z41 z42 rfl (by decide) v L.length (L.map Ls.v) hs hown.o ⟨g, 0, none⟩ 1 c [Ls.v y] hx rfl ?_ (fun u hu => by simp at hu; subst hu; rfl) (by unfold maxLen; omega) (by omega) hbase ?_
  · intro j u hj
    match j, hj with
    | 0, hj =>
      simp at hj
      subst hj
      exact hc
    | j + 1, hj => simp at hj
  · intro v' w' h1 h2 _ h4
    have hall : ∀ x ∈ L ++ [y], IntsAt w x.1 x.2.2 ∧ ∀ b off, x.1 = some ⟨b, off, none⟩ → ¬ x.2.2 = [] → ¬ some b = v.ownBlock := by
      intro x hx
      rcases List.mem_append.1 hx with h | h
      · exact ⟨hown.k x h, hown.n x h⟩
      · simp at h
        subst h
        exact ⟨hy, hyn⟩
    refine h v' w' ⟨?_, fun x hx => (hall x hx).1.grown h2 (hall x hx).2, fun x hx b off hb hne => ?_⟩ (grown_below h2 hbase (inL_ge hown))
    · rw [List.map_append, List.length_append]
      exact h1
    · rcases h4 with h4 | h4
      · rw [h4]
        exact (hall x hx).2 b off hb hne
      · rw [h4]
        intro e
        injection e with e
        subst e
        rcases (hall x hx).1 with h5 | ⟨b', off', e', h5⟩
        · exact hne h5
        · rw [hb] at e'
          injection e' with e'
          injection e' with e1 e2
          subst e1
          obtain ⟨z, hz⟩ : ∃ z, x.2.2[0]? = some z := by
            cases hxx : x.2.2 with
            | nil => exact absurd hxx hne
            | cons z l => exact ⟨z, rfl⟩
          have := World.block_lt_of_cell? _ _ (h5 0 z hz)
          simp at this
end Go.Proofs.YtcpndojkfngioaaGreat

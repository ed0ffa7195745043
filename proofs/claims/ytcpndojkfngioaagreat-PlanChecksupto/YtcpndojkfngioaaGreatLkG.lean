import Derived.Test.YtcpndojkfngioaaGreatLkD
set_option linter.unusedSimpArgs false
set_option linter.unusedVariables false
namespace Go.Proofs.YtcpndojkfngioaaGreat
open Go.RowKit Go.Sort

theorem cell_grown {w w' : World} {k o : Nat} {v : Value} {row : Option Nat} (h : w.cell? ⟨k, o, none⟩ = some v) (hg : w.grownBy w' row) (hn : ¬ some k = row) : w'.cell? ⟨k, o, none⟩ = some v := by
  rw [World.cell?_of_block (w := w) (w' := w') (hg.block k (World.block_lt_of_cell? _ _ h) hn)]; exact h
theorem Elv.grown {w w' : World} {b off : Nat} {p : Pl} {m : Pm} {row : Option Nat} (h : Elv w b off p m) (hg : w.grownBy w' row) (hn : ¬ some b = row) : Elv w' b off p m :=
  ⟨cell_grown h.c0 hg hn, cell_grown h.c1 hg hn, cell_grown h.c2 hg hn, cell_grown h.c3 hg hn, cell_grown h.c4 hg hn, cell_grown h.c5 hg hn, cell_grown h.c6 hg hn, cell_grown h.c7 hg hn, cell_grown h.c8 hg hn, cell_grown h.c9 hg hn, cell_grown h.c10 hg hn⟩
theorem Sxt.grown {w w' : World} {b off : Nat} {x : Nv} {row : Option Nat} (h : Sxt w b off x) (hg : w.grownBy w' row) (hn : ¬ some b = row) : Sxt w' b off x :=
  ⟨h.e.grown hg hn, ⟨cell_grown h.t.c0 hg hn, cell_grown h.t.c1 hg hn, cell_grown h.t.c2 hg hn⟩, cell_grown h.k hg hn, cell_grown h.a hg hn⟩
theorem NsAt.grown {w w' : World} {a : Option Addr} {ys : List Nv} {row : Option Nat} (h : NsAt w a ys) (hg : w.grownBy w' row) (hs : ∀ g off, a = some ⟨g, off, none⟩ → ¬ some g = row) (hk : ∀ y ∈ ys, ∀ g off, y.k.1 = some ⟨g, off, none⟩ → ¬ some g = row) : NsAt w' a ys := by
  rcases h with h | ⟨g, ha, h⟩
  · exact .inl h
  · exact .inr ⟨g, ha, fun i y hy => ⟨(h i y hy).1.grown hg (hs g 0 ha), (h i y hy).2.grown hg fun g off e _ => hk y (List.mem_of_getElem? hy) g off e⟩⟩
theorem grown_set (w : World) (b o : Nat) (u : Value) : w.grownBy (w.setCell ⟨b, o, none⟩ u) (some b) := ⟨rfl, rfl, rfl, by simp [World.setCell], fun k hk hn => Below.heap_setCell _ _ _ _ (fun e => hn (by rw [e]))⟩
/-- A node's box, which may be written. -/
structure Nod (w : World) (b : Nat) (x : Nv) : Prop where
  s : Sxt w b 0 x
  f : ∀ o, w.frozen? ⟨b, o, none⟩ = false
theorem Nod.later {w w' : World} {b : Nat} {x : Nv} (h : Nod w b x) (hb : Below w.heap.size w w') : Nod w' b x := ⟨h.s.later hb, fun o => by rw [(bcell hb).2 b o (World.block_lt_of_cell? _ _ h.s.e.c0)]; exact h.f o⟩
theorem Nod.grown {w w' : World} {b : Nat} {x : Nv} {row : Option Nat} (h : Nod w b x) (hg : w.grownBy w' row) (hn : ¬ some b = row) : Nod w' b x := ⟨h.s.grown hg hn, fun o => by
  rw [World.frozen?_of_block (w := w) (w' := w') (hg.block b (World.block_lt_of_cell? _ _ h.s.e.c0) hn)]; exact h.f o⟩
theorem Nod.kinds {w : World} {b : Nat} {x : Nv} (h : Nod w b x) (k : Ls) : Nod (w.setCell ⟨b, 14, none⟩ (.slice k.1 k.2.2.length k.2.1)) b { x with k := k } := by
  obtain ⟨⟨⟨c0, c1, c2, c3, c4, c5, c6, c7, c8, c9, c10⟩, ⟨d0, d1, d2⟩, hk, ha⟩, hf⟩ := h
  simp only [Nat.zero_add, Nat.reduceAdd] at c0 c1 c2 c3 c4 c5 c6 c7 c8 c9 c10 d0 d1 d2 hk ha
  have hn : ∀ o, o ≠ 14 → (w.setCell ⟨b, 14, none⟩ (.slice k.1 k.2.2.length k.2.1)).cell? ⟨b, o, none⟩ = w.cell? ⟨b, o, none⟩ := fun o ho => cell_set_ne _ _ _ _ _ _ (by simp [ho])
  refine ⟨⟨⟨?_, ?_, ?_, ?_, ?_, ?_, ?_, ?_, ?_, ?_, ?_⟩, ⟨?_, ?_, ?_⟩, ?_, ?_⟩, fun o => by rw [frozen_set]; exact hf o⟩
  all_goals first
    | (try simp only [Nat.zero_add, Nat.reduceAdd]
       rw [hn _ (by decide)]
       assumption)
    | exact cell_set_at hk
set_option maxHeartbeats 1000000 in
set_option maxRecDepth 100000 in
/-- look$1 (64). -/
theorem outCol_any (os : List Int) (aO : Option Addr) (cO q : Nat) (c : Int) (h1 : os.length ≤ 1000) (w : World) (hq : w.cell? ⟨q, 0, none⟩ = some (.slice aO os.length cO)) :
    Calls Tryz.prog 64 #[.int .i64 c, .pointer (some ⟨q, 0, none⟩)] w fun r w' => r = .returned (.bool (decide ((os.length : Int) ≤ c))) ∧ Below w.heap.size w w' := by
  by_cases h : (os.length : Int) ≤ c
  · rw [decide_eq_true h]
    go_enter Tryz.func64, Tryz.ntmps64
    go_wp2
    go_ret
    exact ⟨rfl, Below.refl _ _⟩
  · rw [decide_eq_false h]
    go_enter Tryz.func64, Tryz.ntmps64
    go_wp2
    go_ret
    exact ⟨rfl, Below.refl _ _⟩
theorem containsI_over (l os : List Int) (aO : Option Addr) (cO q : Nat) (hl : l.length ≤ 140737488355328) (h1 : os.length ≤ 1000) (a : Option Addr) (c : Nat) (w : World) (ha : IntsAt w a l) (hq : w.cell? ⟨q, 0, none⟩ = some (.slice aO os.length cO)) :
    Calls Tryz.prog 62 #[.slice a l.length c, .func (.func 64) #[] #[.pointer (some ⟨q, 0, none⟩)]] w fun r w' => r = .returned (.bool (l.any fun c => decide ((os.length : Int) ≤ c))) ∧ Below w.heap.size w w' := by
  have h := containsI (l.map fun x => .int .i64 x) (l.map fun c => decide ((os.length : Int) ≤ c)) (by simp) a c (.func (.func 64) #[] #[.pointer (some ⟨q, 0, none⟩)]) w (by simpa using hl) (lstI ha) ⟨64, _, rfl, fun args w => by kernel_rfl, fun i v bb W gv gb hW => by
    rw [List.getElem?_map] at gv gb
    obtain ⟨y, hy, rfl⟩ := Option.map_eq_some_iff.1 gv
    rw [hy] at gb
    injection gb with gb
    subst gb
    exact outCol_any os aO cO q y h1 W (clater hq hW)⟩
  rw [List.length_map, List.any_map] at h
  exact h
/-- The error of a plan over the kinds of its Args. -/
def lookE (p : Pl) (t : Tb) (os : List Int) (ins : List (List Int)) : Int := if (colsOv p).any (fun c => decide ((os.length : Int) ≤ c)) then 1 else if 32 < (kindsK p t os).length then 1 else if fitsP p os ins then 0 else 4
/-- What look does. -/
def LoQ (b : Nat) (x : Nv) (K : List Int) (er : Int) (w : World) (r : Ending) (w' : World) : Prop := r = .returned (.int .i64 er) ∧ w.grownBy w' (some b) ∧ (er = 0 → ∃ a c, Nod w' b { x with k := (a, c, K) } ∧ OwnI w' w.heap.size (.slice a K.length c) K)
theorem over_len {p : Pl} {ys : List Nv} (hnd : Need p) (hyl : ys.length = p.args.length) (hks : ∀ y ∈ ys, KOk y.k.2.2) : (overK p.op (insOf ys)).length ≤ 64 := by
  have hi : ∀ k ∈ insOf ys, KOk k := by
    intro k hk
    unfold insOf at hk
    obtain ⟨y, hy, rfl⟩ := List.mem_map.1 hk
    exact hks y hy
  have hl : (insOf ys).length = p.args.length := by unfold insOf; rw [List.length_map, hyl]
  unfold overK
  split
  · simp
  · rename_i h1
    split
    · rename_i h2
      simp only [Bool.or_eq_true, beq_iff_eq] at h2
      have h3 : p.args.length = 2 := by rcases h2 with o | o; · exact (need4 o hnd).1
                                        · exact (need5 o hnd).1
      rw [List.length_append]
      have := (in0_ok hi (by omega)).hi
      have := (in1_ok hi (by omega)).hi
      omega
    · simp only [Bool.or_eq_true, beq_iff_eq, not_or] at h1
      have h3 : 1 ≤ p.args.length := by
        rcases need_op hnd with o | o | o | o | o | o | o | o | o | o | o | o
        · exact absurd o h1.1
        · have := (need2 o hnd).1; omega
        · have := (need3 o hnd).1; omega
        · have := (need4 o hnd).1; omega
        · have := (need5 o hnd).1; omega
        · have := (need6 o hnd).1; omega
        · have := need7 o hnd; omega
        · have := need8 o hnd; omega
        · have := need9 o hnd; omega
        · have := (need10 o hnd).1; omega
        · have := need11 o hnd; omega
        · exact absurd o h1.2
      have := (in0_ok hi (by omega)).hi
      omega
theorem colsOv_len {p : Pl} (hf : p.fin) (hel : p.ex.length ≤ 32) : (colsOv p).length ≤ 4000000 := by
  obtain ⟨⟨f1, f2, f3, f4, f5, f6, f7, fc, fk, fa⟩, hfx, _⟩ := Pl.fin_open hf
  unfold colsOv
  split
  · simp; omega
  split
  · simp; omega
  split
  · simp; omega
  · have := flat_le p.ex; omega
set_option maxHeartbeats 8000000 in
set_option maxRecDepth 100000 in
/-- look (31). -/
theorem look_any (b : Nat) (x : Nv) (ys : List Nv) (hf : x.q.fin) (hnd : Need x.q) (hel : x.q.ex.length ≤ 32) (hl : x.nl = x.q.args.length) (hyl : ys.length = x.q.args.length) (hks : ∀ y ∈ ys, KOk y.k.2.2) (w0 w : World) (h0 : Below w0.heap.size w0 w) (hb : w0.heap.size ≤ b) (hx : Nod w b x) (ho : Own4 w0 x.q x.m) (hT : ColsT w0 x.tm.aC x.t.cols) (htl : x.t.cols.length ≤ 1048576) (hys : NsAt w x.na ys) (hsa : ∀ g off, x.na = some ⟨g, off, none⟩ → b < g) (hsk : ∀ y ∈ ys, ∀ g off, y.k.1 = some ⟨g, off, none⟩ → b < g) :
    Calls Tryz.prog 31 #[.pointer (some ⟨b, 0, none⟩)] w (LoQ b x (kindsK x.q x.t (overK x.q.op (insOf ys))) (lookE x.q x.t (overK x.q.op (insOf ys)) (insOf ys)) w) := by
  have hbl : b < w.heap.size := World.block_lt_of_cell? _ _ hx.s.e.c0
  have hosl := over_len hnd hyl hks
  have HOV := hide (over_any b x ys hnd hl hyl hks w hx.s hys)
  have hfa := (Pl.fin_open hf).1.2.2.2.2.2.1
  have hcll := colsOv_len hf hel
  obtain ⟨os, hos⟩ : ∃ os, os = overK x.q.op (insOf ys) := ⟨_, rfl⟩
  rw [← hos] at HOV hosl ⊢
  obtain ⟨K, hKK⟩ : ∃ K, K = kindsK x.q x.t os := ⟨_, rfl⟩
  obtain ⟨er, her⟩ : ∃ er, er = lookE x.q x.t os (insOf ys) := ⟨_, rfl⟩
  obtain ⟨cv, hcv⟩ : ∃ cv, cv = colsOv x.q := ⟨_, rfl⟩
  obtain ⟨fb, hfb⟩ : ∃ fb, fb = fitsP x.q os (insOf ys) := ⟨_, rfl⟩
  have HCO := hide (fun (W : World) (hW : Below w.heap.size w W) => columns_any b x.q x.m hf hel W (hx.s.e.later hW) (ho.later (below_step h0 hW)))
  have HKV := hide (fun (hr : ∀ c ∈ colsOv x.q, c < (os.length : Int)) (aO : Option Addr) (cO : Nat) (W : World) (hW : Below w.heap.size w W) (hO : OwnI W w.heap.size (.slice aO os.length cO) os) => kindsOver_any b x hf hnd os hosl aO cO w.heap.size W (hx.s.later hW) (ho.later (below_step h0 hW)) (hT.later (below_step h0 hW)) htl hO hW.size (fun _ => hr))
  have HFI := hide (fun (hr : ∀ c ∈ colsOv x.q, c < (os.length : Int)) (k : Ls) (aO : Option Addr) (cO : Nat) (W : World) (h0W : Below w0.heap.size w0 W) (hxW : Sxt W b 0 { x with k := k }) (hyW : NsAt W x.na ys) (hO : IntsAt W aO os) => fits_any2 b { x with k := k } ys hf hnd (by show x.nl = _; rw [hl, hyl]) (by omega) (fun y hy => by have := (hks y hy).hi; omega) os hosl aO cO W hxW (ho.later h0W) hyW hO (fun _ => hr))
  simp only at HFI
  rw [← hcv] at HCO HKV HFI hcll
  rw [← hKK] at HKV
  rw [← hfb] at HFI
  have HER : Hid (er = if cv.any (fun c => decide ((os.length : Int) ≤ c)) then 1 else if 32 < K.length then 1 else if fb then 0 else 4) := by show _ = _; rw [her, hcv, hKK, hfb]; rfl
  rw [← her, ← hKK]
  have HX := hide hx
  have HYS := hide hys
  have HSA := hide hsa
  have HSK := hide hsk
  have H0 := hide h0
  have HBB := hide hb
  have HBL := hide hbl
  clear hx hys hsa hsk h0 hb ho hT hf hnd hks hos hKK her hcv hfb
  cases hout : cv.any (fun c => decide ((os.length : Int) ≤ c))
  case true =>
    obtain rfl : er = 1 := by rw [unhide HER, hout]; rfl
    go_enter Tryz.func31, Tryz.ntmps31
    go_wp2_with (first
      | (go_at_call 66; refine (unhide HFI (unhide HRG) (aK, cK, K) aO cO _ ((unhide H0).trans (unhide H05)) (unhide HX5).s (unhide HY5) (unhide HI5)).mono ?_; rintro r w6 ⟨rfl, hb6⟩)
      | (go_at_call 65; refine (unhide HKV (unhide HRG) aO cO w3 (unhide HB3) (unhide HO3)).mono ?_; rintro r w4 ⟨aK, cK, rfl, hK4, hI4, hg4⟩; have hb4 := grown_below hg4 (unhide HB3).size (fun g hg => (unhide HG1 g hg).1); have hB4 := (unhide HB3).trans hb4; have hX4 := (unhide HX).later hB4; have HX5 := hide (hX4.kinds (aK, cK, K)); have cq4 := cell_grown (unhide HCQ3) hg4 (fun e => by have := (unhide HG1 _ e.symm).2; omega); have hgs := grown_set w4 b 14 (.slice aK K.length cK); have cq5 := cell_grown cq4 hgs (fun e => by injection e with e; have := unhide HBL; have := (unhide HB2).size; have hh := World.block_lt_of_cell? _ _ cq4; (have hq := (unhide HB1s); omega)); have HI5 := hide (hI4.grown hgs (fun g off e _ e2 => by injection e2 with e2; subst e2; (have hq := own_at_ge (unhide HO3) e; have := unhide HBL; omega))); have HG5 := hide (grown_trans (grown_of_below (some b) hB4) hgs); have HK5 : Hid (OwnI (w4.setCell ⟨b, 14, none⟩ (.slice aK K.length cK)) w.heap.size (.slice aK K.length cK) K) := (World.ownsRow.kept hK4 hgs (by cases hq : (Value.slice aK K.length cK).ownBlock with | none => exact .inl rfl | some g => exact .inr (by have := (World.ownsRow.lt hK4 g hq).1; have := unhide HBL; simp; omega))); have HY5 := hide (((unhide HYS).later hB4).grown hgs (fun g off e e2 => by injection e2 with e2; have := unhide HSA g off e; omega) (fun y hy g off e e2 => by injection e2 with e2; have := unhide HSK y hy g off e; omega)); have H05 := hide (grown_below (grown_trans (grown_of_below (some b) hB4) hgs) (unhide H0).size (fun g hg => by injection hg with hg; have := unhide HBB; omega)); have cf := hX4.f 14; have c14 := hX4.s.k; simp only [Nat.zero_add] at c14; have k14 := (unhide HX5).s.k; simp only [Nat.zero_add] at k14; clear hK4 hI4 hg4 hb4 hX4 hgs)
      | (go_at_call 62; refine (unhide HCI).mono ?_; rintro r w3 ⟨rfl, hb3⟩; have hb23 := below_step (unhide HB2b) hb3; have HB3 := hide (below_step (unhide HB2) hb23); have HO3 := hide ((unhide HO2).later hb23); have cq3 := clater (unhide HCQ) hb23; have HCQ3 := hide cq3; clear hb3 hb23)
      | (go_at_call 63; refine (unhide HCO _ (unhide HB2)).mono ?_; rintro r w2 ⟨aC, cC, rfl, hO2, hb2⟩; have HCI := hide (containsI_over cv os aO cO w1.heap.size (by omega) (by omega) aC cC w2 hO2.ints (clater (unhide HCQ) hb2)); rw [hout] at HCI; have HB2b := hide hb2; clear hO2 hb2)
      | (go_at_call 61; refine (unhide HOV).mono ?_; rintro r w1 ⟨aO, cO, rfl, hO1, hb1⟩; have hbA := below_alloc (Below.refl _ w1) (.cells #[.slice aO os.length cO] 23); have HB2 := hide (below_step hb1 hbA); have HB1s : Hid (w.heap.size ≤ w1.heap.size) := hb1.size; have HO2 := hide (hO1.later hbA); have cq : (w1.alloc (.cells #[.slice aO os.length cO] 23)).cell? ⟨w1.heap.size, 0, none⟩ = some (.slice aO os.length cO) := (by simp [go_sem]); have HCQ := hide cq; have HG1 : Hid (∀ g, (Value.slice aO os.length cO).ownBlock = some g → w.heap.size ≤ g ∧ g < w1.heap.size) := (World.ownsRow.lt hO1); clear hO1 hbA cq))
    go_ret
    exact ⟨rfl, grown_of_below _ (unhide HB3), fun e => by cases e⟩
  have HRG : Hid (∀ c ∈ cv, c < (os.length : Int)) := fun c hc => by have := any_out hout hc; simp only [decide_eq_false_iff_not] at this; omega
  rw [hout] at HER
  by_cases h32 : 32 < K.length
  case pos =>
    obtain rfl : er = 1 := by rw [unhide HER, if_neg (by decide), if_pos h32]
    have h33 : (32 : Int) < (K.length : Int) := by omega
    go_enter Tryz.func31, Tryz.ntmps31
    go_wp2_with (first
      | (go_at_call 66; refine (unhide HFI (unhide HRG) (aK, cK, K) aO cO _ ((unhide H0).trans (unhide H05)) (unhide HX5).s (unhide HY5) (unhide HI5)).mono ?_; rintro r w6 ⟨rfl, hb6⟩)
      | (go_at_call 65; refine (unhide HKV (unhide HRG) aO cO w3 (unhide HB3) (unhide HO3)).mono ?_; rintro r w4 ⟨aK, cK, rfl, hK4, hI4, hg4⟩; have hb4 := grown_below hg4 (unhide HB3).size (fun g hg => (unhide HG1 g hg).1); have hB4 := (unhide HB3).trans hb4; have hX4 := (unhide HX).later hB4; have HX5 := hide (hX4.kinds (aK, cK, K)); have cq4 := cell_grown (unhide HCQ3) hg4 (fun e => by have := (unhide HG1 _ e.symm).2; omega); have hgs := grown_set w4 b 14 (.slice aK K.length cK); have cq5 := cell_grown cq4 hgs (fun e => by injection e with e; have := unhide HBL; have := (unhide HB2).size; have hh := World.block_lt_of_cell? _ _ cq4; (have hq := (unhide HB1s); omega)); have HI5 := hide (hI4.grown hgs (fun g off e _ e2 => by injection e2 with e2; subst e2; (have hq := own_at_ge (unhide HO3) e; have := unhide HBL; omega))); have HG5 := hide (grown_trans (grown_of_below (some b) hB4) hgs); have HK5 : Hid (OwnI (w4.setCell ⟨b, 14, none⟩ (.slice aK K.length cK)) w.heap.size (.slice aK K.length cK) K) := (World.ownsRow.kept hK4 hgs (by cases hq : (Value.slice aK K.length cK).ownBlock with | none => exact .inl rfl | some g => exact .inr (by have := (World.ownsRow.lt hK4 g hq).1; have := unhide HBL; simp; omega))); have HY5 := hide (((unhide HYS).later hB4).grown hgs (fun g off e e2 => by injection e2 with e2; have := unhide HSA g off e; omega) (fun y hy g off e e2 => by injection e2 with e2; have := unhide HSK y hy g off e; omega)); have H05 := hide (grown_below (grown_trans (grown_of_below (some b) hB4) hgs) (unhide H0).size (fun g hg => by injection hg with hg; have := unhide HBB; omega)); have cf := hX4.f 14; have c14 := hX4.s.k; simp only [Nat.zero_add] at c14; have k14 := (unhide HX5).s.k; simp only [Nat.zero_add] at k14; clear hK4 hI4 hg4 hb4 hX4 hgs)
      | (go_at_call 62; refine (unhide HCI).mono ?_; rintro r w3 ⟨rfl, hb3⟩; have hb23 := below_step (unhide HB2b) hb3; have HB3 := hide (below_step (unhide HB2) hb23); have HO3 := hide ((unhide HO2).later hb23); have cq3 := clater (unhide HCQ) hb23; have HCQ3 := hide cq3; clear hb3 hb23)
      | (go_at_call 63; refine (unhide HCO _ (unhide HB2)).mono ?_; rintro r w2 ⟨aC, cC, rfl, hO2, hb2⟩; have HCI := hide (containsI_over cv os aO cO w1.heap.size (by omega) (by omega) aC cC w2 hO2.ints (clater (unhide HCQ) hb2)); rw [hout] at HCI; have HB2b := hide hb2; clear hO2 hb2)
      | (go_at_call 61; refine (unhide HOV).mono ?_; rintro r w1 ⟨aO, cO, rfl, hO1, hb1⟩; have hbA := below_alloc (Below.refl _ w1) (.cells #[.slice aO os.length cO] 23); have HB2 := hide (below_step hb1 hbA); have HB1s : Hid (w.heap.size ≤ w1.heap.size) := hb1.size; have HO2 := hide (hO1.later hbA); have cq : (w1.alloc (.cells #[.slice aO os.length cO] 23)).cell? ⟨w1.heap.size, 0, none⟩ = some (.slice aO os.length cO) := (by simp [go_sem]); have HCQ := hide cq; have HG1 : Hid (∀ g, (Value.slice aO os.length cO).ownBlock = some g → w.heap.size ≤ g ∧ g < w1.heap.size) := (World.ownsRow.lt hO1); clear hO1 hbA cq))
    go_ret
    exact ⟨rfl, unhide HG5, fun e => by cases e⟩
  have h33 : (K.length : Int) ≤ 32 := by omega
  have HER2 : Hid (er = if fb then 0 else 4) := by show _ = _; rw [unhide HER, if_neg (by decide), if_neg h32]
  clear HER h32
  cases fb
  · obtain rfl : er = 4 := unhide HER2
    go_enter Tryz.func31, Tryz.ntmps31
    go_wp2_with (first
      | (go_at_call 66; refine (unhide HFI (unhide HRG) (aK, cK, K) aO cO _ ((unhide H0).trans (unhide H05)) (unhide HX5).s (unhide HY5) (unhide HI5)).mono ?_; rintro r w6 ⟨rfl, hb6⟩)
      | (go_at_call 65; refine (unhide HKV (unhide HRG) aO cO w3 (unhide HB3) (unhide HO3)).mono ?_; rintro r w4 ⟨aK, cK, rfl, hK4, hI4, hg4⟩; have hb4 := grown_below hg4 (unhide HB3).size (fun g hg => (unhide HG1 g hg).1); have hB4 := (unhide HB3).trans hb4; have hX4 := (unhide HX).later hB4; have HX5 := hide (hX4.kinds (aK, cK, K)); have cq4 := cell_grown (unhide HCQ3) hg4 (fun e => by have := (unhide HG1 _ e.symm).2; omega); have hgs := grown_set w4 b 14 (.slice aK K.length cK); have cq5 := cell_grown cq4 hgs (fun e => by injection e with e; have := unhide HBL; have := (unhide HB2).size; have hh := World.block_lt_of_cell? _ _ cq4; (have hq := (unhide HB1s); omega)); have HI5 := hide (hI4.grown hgs (fun g off e _ e2 => by injection e2 with e2; subst e2; (have hq := own_at_ge (unhide HO3) e; have := unhide HBL; omega))); have HG5 := hide (grown_trans (grown_of_below (some b) hB4) hgs); have HK5 : Hid (OwnI (w4.setCell ⟨b, 14, none⟩ (.slice aK K.length cK)) w.heap.size (.slice aK K.length cK) K) := (World.ownsRow.kept hK4 hgs (by cases hq : (Value.slice aK K.length cK).ownBlock with | none => exact .inl rfl | some g => exact .inr (by have := (World.ownsRow.lt hK4 g hq).1; have := unhide HBL; simp; omega))); have HY5 := hide (((unhide HYS).later hB4).grown hgs (fun g off e e2 => by injection e2 with e2; have := unhide HSA g off e; omega) (fun y hy g off e e2 => by injection e2 with e2; have := unhide HSK y hy g off e; omega)); have H05 := hide (grown_below (grown_trans (grown_of_below (some b) hB4) hgs) (unhide H0).size (fun g hg => by injection hg with hg; have := unhide HBB; omega)); have cf := hX4.f 14; have c14 := hX4.s.k; simp only [Nat.zero_add] at c14; have k14 := (unhide HX5).s.k; simp only [Nat.zero_add] at k14; clear hK4 hI4 hg4 hb4 hX4 hgs)
      | (go_at_call 62; refine (unhide HCI).mono ?_; rintro r w3 ⟨rfl, hb3⟩; have hb23 := below_step (unhide HB2b) hb3; have HB3 := hide (below_step (unhide HB2) hb23); have HO3 := hide ((unhide HO2).later hb23); have cq3 := clater (unhide HCQ) hb23; have HCQ3 := hide cq3; clear hb3 hb23)
      | (go_at_call 63; refine (unhide HCO _ (unhide HB2)).mono ?_; rintro r w2 ⟨aC, cC, rfl, hO2, hb2⟩; have HCI := hide (containsI_over cv os aO cO w1.heap.size (by omega) (by omega) aC cC w2 hO2.ints (clater (unhide HCQ) hb2)); rw [hout] at HCI; have HB2b := hide hb2; clear hO2 hb2)
      | (go_at_call 61; refine (unhide HOV).mono ?_; rintro r w1 ⟨aO, cO, rfl, hO1, hb1⟩; have hbA := below_alloc (Below.refl _ w1) (.cells #[.slice aO os.length cO] 23); have HB2 := hide (below_step hb1 hbA); have HB1s : Hid (w.heap.size ≤ w1.heap.size) := hb1.size; have HO2 := hide (hO1.later hbA); have cq : (w1.alloc (.cells #[.slice aO os.length cO] 23)).cell? ⟨w1.heap.size, 0, none⟩ = some (.slice aO os.length cO) := (by simp [go_sem]); have HCQ := hide cq; have HG1 : Hid (∀ g, (Value.slice aO os.length cO).ownBlock = some g → w.heap.size ≤ g ∧ g < w1.heap.size) := (World.ownsRow.lt hO1); clear hO1 hbA cq))
    go_ret
    exact ⟨rfl, grown_trans (unhide HG5) (grown_of_below _ hb6), fun e => by cases e⟩
  · obtain rfl : er = 0 := unhide HER2
    go_enter Tryz.func31, Tryz.ntmps31
    go_wp2_with (first
      | (go_at_call 66; refine (unhide HFI (unhide HRG) (aK, cK, K) aO cO _ ((unhide H0).trans (unhide H05)) (unhide HX5).s (unhide HY5) (unhide HI5)).mono ?_; rintro r w6 ⟨rfl, hb6⟩)
      | (go_at_call 65; refine (unhide HKV (unhide HRG) aO cO w3 (unhide HB3) (unhide HO3)).mono ?_; rintro r w4 ⟨aK, cK, rfl, hK4, hI4, hg4⟩; have hb4 := grown_below hg4 (unhide HB3).size (fun g hg => (unhide HG1 g hg).1); have hB4 := (unhide HB3).trans hb4; have hX4 := (unhide HX).later hB4; have HX5 := hide (hX4.kinds (aK, cK, K)); have cq4 := cell_grown (unhide HCQ3) hg4 (fun e => by have := (unhide HG1 _ e.symm).2; omega); have hgs := grown_set w4 b 14 (.slice aK K.length cK); have cq5 := cell_grown cq4 hgs (fun e => by injection e with e; have := unhide HBL; have := (unhide HB2).size; have hh := World.block_lt_of_cell? _ _ cq4; (have hq := (unhide HB1s); omega)); have HI5 := hide (hI4.grown hgs (fun g off e _ e2 => by injection e2 with e2; subst e2; (have hq := own_at_ge (unhide HO3) e; have := unhide HBL; omega))); have HG5 := hide (grown_trans (grown_of_below (some b) hB4) hgs); have HK5 : Hid (OwnI (w4.setCell ⟨b, 14, none⟩ (.slice aK K.length cK)) w.heap.size (.slice aK K.length cK) K) := (World.ownsRow.kept hK4 hgs (by cases hq : (Value.slice aK K.length cK).ownBlock with | none => exact .inl rfl | some g => exact .inr (by have := (World.ownsRow.lt hK4 g hq).1; have := unhide HBL; simp; omega))); have HY5 := hide (((unhide HYS).later hB4).grown hgs (fun g off e e2 => by injection e2 with e2; have := unhide HSA g off e; omega) (fun y hy g off e e2 => by injection e2 with e2; have := unhide HSK y hy g off e; omega)); have H05 := hide (grown_below (grown_trans (grown_of_below (some b) hB4) hgs) (unhide H0).size (fun g hg => by injection hg with hg; have := unhide HBB; omega)); have cf := hX4.f 14; have c14 := hX4.s.k; simp only [Nat.zero_add] at c14; have k14 := (unhide HX5).s.k; simp only [Nat.zero_add] at k14; clear hK4 hI4 hg4 hb4 hX4 hgs)
      | (go_at_call 62; refine (unhide HCI).mono ?_; rintro r w3 ⟨rfl, hb3⟩; have hb23 := below_step (unhide HB2b) hb3; have HB3 := hide (below_step (unhide HB2) hb23); have HO3 := hide ((unhide HO2).later hb23); have cq3 := clater (unhide HCQ) hb23; have HCQ3 := hide cq3; clear hb3 hb23)
      | (go_at_call 63; refine (unhide HCO _ (unhide HB2)).mono ?_; rintro r w2 ⟨aC, cC, rfl, hO2, hb2⟩; have HCI := hide (containsI_over cv os aO cO w1.heap.size (by omega) (by omega) aC cC w2 hO2.ints (clater (unhide HCQ) hb2)); rw [hout] at HCI; have HB2b := hide hb2; clear hO2 hb2)
      | (go_at_call 61; refine (unhide HOV).mono ?_; rintro r w1 ⟨aO, cO, rfl, hO1, hb1⟩; have hbA := below_alloc (Below.refl _ w1) (.cells #[.slice aO os.length cO] 23); have HB2 := hide (below_step hb1 hbA); have HB1s : Hid (w.heap.size ≤ w1.heap.size) := hb1.size; have HO2 := hide (hO1.later hbA); have cq : (w1.alloc (.cells #[.slice aO os.length cO] 23)).cell? ⟨w1.heap.size, 0, none⟩ = some (.slice aO os.length cO) := (by simp [go_sem]); have HCQ := hide cq; have HG1 : Hid (∀ g, (Value.slice aO os.length cO).ownBlock = some g → w.heap.size ≤ g ∧ g < w1.heap.size) := (World.ownsRow.lt hO1); clear hO1 hbA cq))
    go_ret
    exact ⟨rfl, grown_trans (unhide HG5) (grown_of_below _ hb6), fun _ => ⟨aK, cK, (unhide HX5).later hb6, (unhide HK5).later hb6⟩⟩
end Go.Proofs.YtcpndojkfngioaaGreat
set_option linter.unusedSimpArgs false
set_option linter.unusedVariables false
namespace Go.Proofs.YtcpndojkfngioaaGreat
open Go.RowKit Go.Sort

theorem addr_add (g n : Nat) : (⟨g, 0, none⟩ : Addr).add n = ⟨g, n, none⟩ := by by_cases h : n = 0 <;> simp [Addr.add, h]
/-- No node. -/
def zeroN : Nv := ⟨.mk 0 ⟨#[]⟩ [] [] [] [] 0 0 0 0 [], ⟨none, 0, none, 0, none, 0, none, 0, none, 0⟩, ⟨⟨#[]⟩, [], []⟩, ⟨none, 0, none, 0⟩, (none, 0, []), none, 0, 0⟩
theorem zeroN_v : zeroN.v = .agg #[.int .i64 0, .string ⟨#[]⟩, .slice none 0 0, .slice none 0 0, .slice none 0 0, .slice none 0 0, .int .i64 0, .int .i64 0, .int .i64 0, .int .i64 0, .slice none 0 0, .string ⟨#[]⟩, .slice none 0 0, .slice none 0 0, .slice none 0 0, .slice none 0 0] := rfl
theorem info51K : (Tryz.prog.info? 51).map (fun i => (i.zero, i.size, i.bytes)) = some (some zeroN.v, 16, 288) := by kernel_rfl
theorem cs_len (x : Nv) : x.cs.length = 16 := rfl
theorem cs_one (x : Nv) : ∀ u ∈ x.cs, u.oneCell' = true := by
  intro u hu
  simp only [Nv.cs, List.mem_cons, List.not_mem_nil, or_false] at hu
  rcases hu with rfl | rfl | rfl | rfl | rfl | rfl | rfl | rfl | rfl | rfl | rfl | rfl | rfl | rfl | rfl | rfl <;> rfl
theorem Nod.here {w : World} {b : Nat} {x : Nv} (h : Nod w b x) : ∀ j, j < 16 → (w.cell? ⟨b, j, none⟩).isSome = true := by
  obtain ⟨⟨⟨c0, c1, c2, c3, c4, c5, c6, c7, c8, c9, c10⟩, ⟨d0, d1, d2⟩, hk, ha⟩, hf⟩ := h
  simp only [Nat.zero_add, Nat.reduceAdd] at c0 c1 c2 c3 c4 c5 c6 c7 c8 c9 c10 d0 d1 d2 hk ha
  intro j hj
  match j, hj with
  | 0, _ => rw [c0]; rfl
  | 1, _ => rw [c1]; rfl
  | 2, _ => rw [c2]; rfl
  | 3, _ => rw [c3]; rfl
  | 4, _ => rw [c4]; rfl
  | 5, _ => rw [c5]; rfl
  | 6, _ => rw [c6]; rfl
  | 7, _ => rw [c7]; rfl
  | 8, _ => rw [c8]; rfl
  | 9, _ => rw [c9]; rfl
  | 10, _ => rw [c10]; rfl
  | 11, _ => rw [d0]; rfl
  | 12, _ => rw [d1]; rfl
  | 13, _ => rw [d2]; rfl
  | 14, _ => rw [hk]; rfl
  | 15, _ => rw [ha]; rfl
  | j + 16, h => omega
/-- Sixteen cells make a node. -/
theorem sxt_of {w : World} {b off : Nat} {x : Nv} (h : ∀ j v, x.cs[j]? = some v → w.cell? ⟨b, off + j, none⟩ = some v) : Sxt w b off x :=
  ⟨⟨h 0 _ rfl, h 1 _ rfl, h 2 _ rfl, h 3 _ rfl, h 4 _ rfl, h 5 _ rfl, h 6 _ rfl, h 7 _ rfl, h 8 _ rfl, h 9 _ rfl, h 10 _ rfl⟩, ⟨h 11 _ rfl, by rw [Nat.add_assoc]; exact h 12 _ rfl, by rw [Nat.add_assoc]; exact h 13 _ rfl⟩, h 14 _ rfl, h 15 _ rfl⟩
theorem Nod.store {w : World} {b : Nat} {y : Nv} (h : Nod w b y) (x : Nv) : Nod (w.setCells b 0 x.cs) b x := by
  refine ⟨sxt_of fun j v hv => ?_, fun o => by rw [World.frozen?_setCells]; exact h.f o⟩
  have hj := (List.getElem?_eq_some_iff.1 hv)
  obtain ⟨hl, hv⟩ := hj
  rw [World.cell?_setCells_in b x.cs 0 w (fun j hj => by rw [Nat.zero_add]; exact h.here j (by rw [cs_len] at hj; exact hj)) j hl, hv]
theorem run_store51 {w : World} {b off : Nat} (x : Nv) (h1 : ∀ j, j < 16 → (w.cell? ⟨b, off + j, none⟩).isSome = true) (h2 : ∀ j, j < 16 → w.frozen? ⟨b, off + j, none⟩ = false) : (Instr.storeAt 51 (.pointer (some ⟨b, off, none⟩)) x.v).run Tryz.prog w = .ok () (w.setCells b off x.cs) := by
  obtain ⟨i, hi, hz, hs, _⟩ := info_parts info51K
  have hst := run_storeCells_cells (P := Tryz.prog) b off x.cs 0 w (fun j hj => by rw [Nat.add_zero]; exact h1 j (by rw [cs_len] at hj; exact hj)) (fun j hj => by rw [Nat.add_zero]; exact h2 j (by rw [cs_len] at hj; exact hj)) (cs_one x)
  rw [Nat.add_zero] at hst
  have hc : x.v.cells.toList = x.cs := rfl
  have hcs : x.v.cells.size = 16 := rfl
  simp [Instr.storeAt, storeVar, Instr.sureAddr, sizeOf, typeInfo, hi, hs, hcs, hc, hst]
theorem Nod.storeRun {w : World} {b : Nat} {y : Nv} (h : Nod w b y) (x : Nv) : (Instr.storeAt 51 (.pointer (some ⟨b, 0, none⟩)) x.v).run Tryz.prog w = .ok () (w.setCells b 0 x.cs) :=
  run_store51 x (fun j hj => by rw [Nat.zero_add]; exact h.here j hj) (fun j _ => h.f _)
theorem grown_cells (w : World) (b o : Nat) (vs : List Value) : w.grownBy (w.setCells b o vs) (some b) := by
  induction vs generalizing w o with
  | nil => exact ⟨rfl, rfl, rfl, Nat.le_refl _, fun _ _ _ => rfl⟩
  | cons v vs ih => rw [World.setCells]; exact grown_trans (grown_set w b o v) (ih _ _)
theorem Nod.new (w : World) (x : Nv) : Nod (w.alloc x.box) w.heap.size x :=
  ⟨⟨⟨by simp [go_sem], by simp [go_sem], by simp [go_sem], by simp [go_sem], by simp [go_sem], by simp [go_sem], by simp [go_sem], by simp [go_sem], by simp [go_sem], by simp [go_sem], by simp [go_sem]⟩, ⟨by simp [go_sem], by simp [go_sem], by simp [go_sem]⟩, by simp [go_sem], by simp [go_sem]⟩, fun o => by simp [go_sem]⟩
theorem Nod.args {w : World} {b : Nat} {x : Nv} (h : Nod w b x) (na : Option Addr) (nl nc : Nat) : Nod (w.setCell ⟨b, 15, none⟩ (.slice na nl nc)) b { x with na := na, nl := nl, nc := nc } := by
  obtain ⟨⟨⟨c0, c1, c2, c3, c4, c5, c6, c7, c8, c9, c10⟩, ⟨d0, d1, d2⟩, hk, ha⟩, hf⟩ := h
  simp only [Nat.zero_add, Nat.reduceAdd] at c0 c1 c2 c3 c4 c5 c6 c7 c8 c9 c10 d0 d1 d2 hk ha
  have hn : ∀ o, o ≠ 15 → (w.setCell ⟨b, 15, none⟩ (.slice na nl nc)).cell? ⟨b, o, none⟩ = w.cell? ⟨b, o, none⟩ := fun o ho => cell_set_ne _ _ _ _ _ _ (by simp [ho])
  refine ⟨⟨⟨?_, ?_, ?_, ?_, ?_, ?_, ?_, ?_, ?_, ?_, ?_⟩, ⟨?_, ?_, ?_⟩, ?_, ?_⟩, fun o => by rw [frozen_set]; exact hf o⟩
  all_goals first
    | (try simp only [Nat.zero_add, Nat.reduceAdd]
       rw [hn _ (by decide)]
       assumption)
    | exact cell_set_at ha
/-- The slice v, a row of the call's own, holds the nodes ys. -/
def OwnN (w : World) (base : Nat) (v : Value) (ys : List Nv) : Prop := w.ownsRow base 51 16 v ys.length (ys.flatMap Nv.cs)
theorem flat16 (ys : List Nv) : (ys.flatMap Nv.cs).length = ys.length * 16 := by
  induction ys with
  | nil => rfl
  | cons y ys ih => rw [List.flatMap_cons, List.length_append, ih, cs_len, List.length_cons]; omega
theorem flat16_get : ∀ {ys : List Nv} {i : Nat} {y : Nv} {j : Nat} {v : Value}, ys[i]? = some y → y.cs[j]? = some v → (ys.flatMap Nv.cs)[i * 16 + j]? = some v
  | [], i, y, j, v, h, _ => by simp at h
  | z :: ys, 0, y, j, v, h, hv => by
    simp at h
    subst h
    have hj := (List.getElem?_eq_some_iff.1 hv).1
    rw [List.flatMap_cons, Nat.zero_mul, Nat.zero_add, List.getElem?_append_left hj]
    exact hv
  | z :: ys, i + 1, y, j, v, h, hv => by
    rw [List.flatMap_cons, List.getElem?_append_right (by rw [cs_len]; omega), cs_len, show (i + 1) * 16 + j - 16 = i * 16 + j by omega]
    exact flat16_get (by simpa using h) hv
theorem OwnN.sxt {w : World} {base g n cap i : Nat} {ys : List Nv} {y : Nv} (h : OwnN w base (.slice (some ⟨g, 0, none⟩) n cap) ys) (hy : ys[i]? = some y) : Sxt w g (i * 16) y :=
  sxt_of fun j v hv => by
    have hc := World.ownsRow.cells h rfl (i * 16 + j) v (flat16_get hy hv)
    rw [addr_add] at hc
    exact hc
theorem OwnN.slice {w : World} {base : Nat} {v : Value} {L : List Nv} (h : OwnN w base v L) : ∃ a cap, v = .slice a L.length cap := by
  rcases h.2 with ⟨rfl, h0⟩ | ⟨g, cap, cur, rfl, _⟩
  · have : L = [] := List.eq_nil_of_length_eq_zero h0
    subst this
    exact ⟨none, 0, rfl⟩
  · exact ⟨_, cap, rfl⟩
theorem OwnN.blk {w : World} {base n cap : Nat} {a : Option Addr} {L : List Nv} (h : OwnN w base (.slice a n cap) L) (hl : 1 ≤ L.length) : ∃ g, a = some ⟨g, 0, none⟩ := by
  rcases h.2 with ⟨e, h0⟩ | ⟨g, cap', cur, e, _⟩
  · omega
  · injection e with e1
    exact ⟨g, e1⟩
def setL (xs : List Value) : Nat → List Value → List Value
  | _, [] => xs
  | o, v :: r => setL (xs.set o v) (o + 1) r
theorem setL_end : ∀ (vs Z A : List Value), Z.length = vs.length → setL (A ++ Z) A.length vs = A ++ vs
  | [], Z, A, h => by
    have : Z = [] := List.eq_nil_of_length_eq_zero (by simpa using h)
    subst this
    rfl
  | v :: vs, [], A, h => by simp at h
  | v :: vs, z :: Z, A, h => by
    rw [setL, List.set_append_right _ _ (Nat.le_refl _), Nat.sub_self, List.set_cons_zero]
    have e : A ++ v :: Z = (A ++ [v]) ++ Z := by simp
    rw [e, show A.length + 1 = (A ++ [v]).length by simp, setL_end vs Z (A ++ [v]) (by simpa using h)]
    simp
theorem own_setL {base e size g n cap : Nat} : ∀ (vs : List Value) (o : Nat) (w : World) (xs : List Value), w.ownsRow base e size (.slice (some ⟨g, 0, none⟩) n cap) n xs → (w.setCells g o vs).ownsRow base e size (.slice (some ⟨g, 0, none⟩) n cap) n (setL xs o vs)
  | [], _, _, _, h => h
  | v :: vs, o, w, xs, h => by
    rw [World.setCells, setL]
    exact own_setL vs (o + 1) _ _ (World.ownsRow.stored h o v).1
theorem OwnN.put {w : World} {base g cap k : Nat} {ys : List Nv} {z : Nv} (h : OwnN w base (.slice (some ⟨g, 0, none⟩) (k + 1) cap) (ys ++ [z])) (hk : ys.length = k) (y : Nv) : OwnN (w.setCells g (k * 16) y.cs) base (.slice (some ⟨g, 0, none⟩) (k + 1) cap) (ys ++ [y]) := by
  unfold OwnN at h ⊢
  have e1 : (ys ++ [z]).length = k + 1 := by rw [List.length_append, hk]; rfl
  have e2 : (ys ++ [y]).length = k + 1 := by rw [List.length_append, hk]; rfl
  rw [e1] at h
  rw [e2]
  have hq := own_setL y.cs (k * 16) w _ h
  rw [List.flatMap_append, ← hk, ← flat16 ys, setL_end y.cs _ _ (by simp [cs_len])] at hq
  rw [List.flatMap_append]
  have e3 : List.flatMap Nv.cs [y] = y.cs := by simp
  rw [e3, ← hk]
  rw [← flat16 ys]
  exact hq
theorem ownN_some {w : World} {base g cap k : Nat} {ys : List Nv} {z : Nv} (h : OwnN w base (.slice (some ⟨g, 0, none⟩) (k + 1) cap) (ys ++ [z])) (hk : ys.length = k) : (∀ j, j < 16 → (w.cell? ⟨g, k * 16 + j, none⟩).isSome = true) ∧ ∀ j, j < 16 → w.frozen? ⟨g, k * 16 + j, none⟩ = false := by
  have hs := h.sxt (i := k) (y := z) (by rw [← hk]; simp)
  refine ⟨fun j hj => ?_, fun j hj => ?_⟩
  · obtain ⟨v, hv⟩ : ∃ v, z.cs[j]? = some v := ⟨_, List.getElem?_eq_getElem (by rw [cs_len]; exact hj)⟩
    have hc := World.ownsRow.cells h rfl (k * 16 + j) v (flat16_get (by rw [← hk]; simp) hv)
    rw [addr_add] at hc
    rw [hc]; rfl
  · have e1 : (ys ++ [z]).length = k + 1 := by rw [List.length_append, hk]; rfl
    unfold OwnN at h
    rw [e1] at h
    exact World.ownsRow.frozenAt h _
/-- append of one node, at the operation. -/
theorem op_push_node {o : Oper} {a : Act} {w : World} {K : Act → World → Prop} {Q : Exit → Act → World → Prop} (s x : Operand) (ho : o.op = .call { callee := .builtin .append, args := #[s, x], argTypes := #[49, 49] })
    (base : Nat) (v : Value) (L : List Nv) (z : Nv) (g c : Nat) (hs : a.eval s = v) (hown : OwnN w base v L) (hx : a.eval x = .slice (some ⟨g, 0, none⟩) 1 c) (hc : ∀ j u, z.cs[j]? = some u → w.cell? ⟨g, j, none⟩ = some u) (hl : L.length ≤ 2000000) (hbase : base ≤ w.heap.size)
    (h : ∀ v' w', OwnN w' base v' (L ++ [z]) → w.grownBy w' v.ownBlock → (v'.ownBlock = v.ownBlock ∨ v'.ownBlock = some w.heap.size) → K (a.put o.dst v') w') : o.wp Tryz.prog a w K Q := by
  obtain ⟨i4, hi4, z40, z41, z42⟩ := info_parts info51K
  obtain ⟨v', w', hr, h2, h3, h4, h5⟩ := run_append_own_at (P := Tryz.prog) w base 49 o.type 51 i4 zeroN.v 16 288 Tryz.underlying49 hi4 z40 z41 z42 rfl (by decide) v L.length (L.flatMap Nv.cs) hown ⟨g, 0, none⟩ 1 c z.cs rfl (fun j u hj => by
    have ea : (⟨g, 0, none⟩ : Addr).add j = ⟨g, j, none⟩ := by
      by_cases h : j = 0 <;> simp [Addr.add, h]
    rw [ea]
    exact hc j u hj) (cs_one z) (by unfold maxLen; omega) (by omega) hbase
  unfold Oper.wp execOp
  simp only [ho, resolve, invoke, builtin, Sem.run_bind, Sem.run_pure, Result.andThen_ok, List.map_toArray, List.map_cons, List.map_nil, hs, hx, hr]
  refine h v' w' ?_ h3 h5
  unfold OwnN
  rw [List.length_append, List.flatMap_append]
  have e3 : List.flatMap Nv.cs [z] = z.cs := by simp
  rw [e3]
  exact h2
theorem op_store_w {P : Program} {o : Oper} {a : Act} {w w' : World} {K : Act → World → Prop} {Q : Exit → Act → World → Prop} (t : TypeId) (p q : Operand) (hop : o.op = Op.store t p q) (ad v : Value) (hp : a.eval p = ad) (hq : a.eval q = v) (hrun : (Instr.storeAt t ad v).run P w = .ok () w')
    (hK : K (a.put o.dst (.tuple #[])) w') : o.wp P a w K Q := by
  unfold Oper.wp
  simp only [execOp, hop, hp, hq, Sem.run_bind, hrun, Result.andThen]
  exact hK
theorem wpList_store_w {P : Program} {ops : Array Oper} {rest : List Oper} {o : Oper} {a : Act} {w w' : World} {Q : Exit → Act → World → Prop} (hg : o.guard = none) (t : TypeId) (p q : Operand) (hop : o.op = Op.store t p q) (ad v : Value) (hp : a.eval p = ad) (hq : a.eval q = v) (hrun : (Instr.storeAt t ad v).run P w = .ok () w')
    (hK : wpList P ops Q rest (a.put o.dst (.tuple #[])) w') : wpList P ops Q (o :: rest) a w := by
  refine wpList_plain hg fun K hK' => ?_
  exact op_store_w t p q hop ad v hp hq hrun (hK' _ _ hK)
end Go.Proofs.YtcpndojkfngioaaGreat
set_option linter.unusedSimpArgs false
set_option linter.unusedVariables false
namespace Go.Proofs.YtcpndojkfngioaaGreat
open Go.RowKit Go.Sort

/-- What the program says of a plan over the kinds of its Args. -/
def lkOp (ts : List Tb) (p : Pl) (ins : List (List Int)) : Int × List Int :=
  if p.op == 1 then (match ts.find? (fun t => decide (t.name = p.tab)) with
    | some t => (lookE p t (overK p.op ins) ins, kindsK p t (overK p.op ins))
    | none => (8, []))
  else (lookE p zeroN.t (overK p.op ins) ins, kindsK p zeroN.t (overK p.op ins))
theorem sound_ex {p : Pl} (h : soundP p = true) : p.ex.length = if exN p.op then p.ex.length else 0 := by
  unfold soundP at h
  simp only [Bool.and_eq_true] at h
  have h2 := h.2
  unfold alikeB ndP at h2
  simp only [Bool.and_eq_true, decide_eq_true_eq] at h2
  have h3 := h2.1.1.1.1.1.1.1.2
  change p.ex.length = (if exN p.op then p.ex else []).length at h3
  cases hE : exN p.op with
  | true => rw [if_pos rfl]
  | false => rw [hE] at h3; rw [if_neg (by simp)]; simpa using h3
theorem no_ex {p : Pl} (h : soundP p = true) (hn : exN p.op = false) : p.ex = [] := by
  have h1 := sound_ex h
  rw [hn] at h1
  exact List.eq_nil_of_length_eq_zero h1
theorem ex_le {p : Pl} (h : soundP p = true) : p.ex.length ≤ 32 := by
  have hn := sound_need h
  rcases need_op hn with o | o | o | o | o | o | o | o | o | o | o | o
  all_goals first
    | (have := no_ex h (by rw [o]; rfl); rw [this]; simp; done)
    | (have := (need2 o hn).2; omega)
    | (have := (need3 o hn).2; omega)
    | (have := (need4 o hn).2; omega)
    | (have := (need5 o hn).2; omega)
/-- Kinds of columns, however many. -/
def Kin (ks : List Int) : Prop := ∀ k ∈ ks, k = 1 ∨ k = 2
theorem kin_no {ks : List Int} (h : Kin ks) : ks.any noK = false := by
  rw [List.any_eq_false]
  intro k hk
  rcases h k hk with rfl | rfl <;> decide
theorem neat_built {e : Ex} (h : noNeat e = false) : builtE e = true := by
  unfold noNeat at h
  simp only [Bool.or_eq_false_iff, Bool.not_eq_false'] at h
  exact h.1
theorem out_iff {e : Ex} (hb : builtE e = true) (n : Nat) : (colX e).any (fun c => decide ((n : Int) ≤ c)) = !usesB e n := by
  unfold colX usesB
  rw [hb, if_pos rfl]
  have hm := (uniq_sd (colsE e)).2.1
  rw [Bool.eq_iff_iff, List.any_eq_true, Bool.not_eq_true', List.all_eq_false]
  constructor
  · rintro ⟨c, hc, h⟩
    exact ⟨c, (hm c).1 hc, by simp only [decide_eq_true_eq] at h; simp; omega⟩
  · rintro ⟨c, hc, h⟩
    exact ⟨c, (hm c).2 hc, by simp at h; simp only [decide_eq_true_eq]; omega⟩
theorem kErr_out {ks : List Int} (hk : Kin ks) {e : Ex} (hb : builtE e = true) : (kErr ks e = 1 ↔ (colX e).any (fun c => decide ((ks.length : Int) ≤ c)) = true) := by
  rw [out_iff hb]
  unfold kErr
  rw [hb, kin_no hk]
  simp only [Bool.not_false, Bool.and_self, Bool.true_and]
  cases usesB e (ks.length : Int) with
  | true => simp; split <;> simp
  | false => simp
theorem any_append' {α : Type} (l m : List α) (p : α → Bool) : (l ++ m).any p = (l.any p || m.any p) := List.any_append
theorem flat_any (l : List Ex) (p : Int → Bool) : (l.flatMap colX).any p = l.any fun e => (colX e).any p := by
  induction l with
  | nil => rfl
  | cons e l ih => rw [List.flatMap_cons, List.any_append, List.any_cons, ih]
/-- One expression: the error of a condition. -/
theorem cond_agree {ks : List Int} (hk : Kin ks) {e : Ex} (hb : builtE e = true) : condE ks e = if (colX e).any (fun c => decide ((ks.length : Int) ≤ c)) then 1 else if (kErr ks e == 0 && kK ks e != 2) then 0 else 4 := by
  have h1 := kErr_out hk hb
  cases ho : (colX e).any (fun c => decide ((ks.length : Int) ≤ c)) with
  | true =>
    have h2 := h1.2 ho
    unfold condE
    rw [h2]
    simp
  | false =>
    have h2 : ¬ kErr ks e = 1 := fun h => by rw [h1.1 h] at ho; cases ho
    unfold condE
    rcases kErr_cases ks e with h | h | h
    · rw [h]
      by_cases h3 : kK ks e = 2
      · simp [h3]
      · simp [h3]
    · exact absurd h h2
    · rw [h]
      simp
theorem kin_append {a b : List Int} (ha : Kin a) (hb : Kin b) : Kin (a ++ b) := fun k hk => by
  rcases List.mem_append.1 hk with h | h
  · exact ha k h
  · exact hb k h
set_option maxRecDepth 10000 in
theorem lk_chk {ts : List Tb} (hw : wellB ts = true) {p : Pl} (hs : soundP p = true) (hx : p.ex.any noNeat = false) {ins : List (List Int)} (hi : ∀ k ∈ ins, KOk k) (hl : ins.length = p.args.length) : (lkOp ts p ins).1 = (chkOp ts p ins).1 ∧ ((chkOp ts p ins).1 = 0 → (lkOp ts p ins).2 = (chkOp ts p ins).2) := by
  have hn := sound_need hs
  have hb : ∀ e ∈ p.ex, builtE e = true := fun e he => neat_built (any_out hx he)
  rcases need_op hn with o | o | o | o | o | o | o | o | o | o | o | o
  · -- Scan
    have hex := no_ex hs (by rw [o]; rfl)
    have hc : colsOv p = [] := by unfold colsOv; rw [o, hex]; rfl
    have e1 : chkOp ts p ins = tabE ts p.tab := by unfold chkOp; rw [o]; rfl
    rw [e1]
    unfold lkOp tabE
    rw [o]
    simp only [beq_self_eq_true, if_true]
    cases hf : ts.find? (fun t => decide (t.name = p.tab)) with
    | none => exact ⟨rfl, fun _ => rfl⟩
    | some t =>
      have hk := KOk.ofB (well_tab hw (List.mem_of_find?_eq_some hf))
      have hkk : ∀ os, kindsK p t os = t.cols.map Prod.snd := fun os => by unfold kindsK; rw [o]; rfl
      have hfi : ∀ os, fitsP p os ins = true := fun os => by unfold fitsP; rw [o]; rfl
      refine ⟨?_, fun _ => hkk _⟩
      show lookE p t _ ins = 0
      unfold lookE
      rw [hc, hkk, hfi, if_neg (by simp), if_neg (by have := hk.hi; omega)]
      rfl
  · -- Filter
    obtain ⟨h1, h2⟩ := need2 o hn
    obtain ⟨e, he⟩ : ∃ e, p.ex = [e] := List.length_eq_one_iff.1 h2
    have hk := in0_ok hi (by omega)
    have hbe := hb e (by rw [he]; exact List.mem_singleton.2 rfl)
    have e1 : chkOp ts p ins = (condE (in0 ins) e, in0 ins) := by unfold chkOp condP; rw [o, he]; rfl
    have e2 : lkOp ts p ins = (lookE p zeroN.t (in0 ins) ins, in0 ins) := by unfold lkOp overK kindsK; rw [o]; rfl
    have e3 : colsOv p = colX e := by unfold colsOv; rw [o, he]; simp
    have e4 : fitsP p (in0 ins) ins = (kErr (in0 ins) e == 0 && kK (in0 ins) e != 2) := by unfold fitsP; rw [o, he]; rfl
    have e5 : kindsK p zeroN.t (in0 ins) = in0 ins := by unfold kindsK; rw [o]; rfl
    rw [e1, e2]
    refine ⟨?_, fun _ => rfl⟩
    show lookE p zeroN.t (in0 ins) ins = condE (in0 ins) e
    rw [cond_agree hk.k hbe]
    unfold lookE
    rw [e3, e4, e5, if_neg (show ¬ 32 < (in0 ins).length by have := hk.hi; omega)]
  · -- Project
    obtain ⟨h1, h2, h3⟩ := need3 o hn
    have hk := in0_ok hi (by omega)
    have e1 : chkOp ts p ins = (projE (in0 ins) p.ex, projK (in0 ins) p.ex) := by unfold chkOp; rw [o]; rfl
    have e2 : lkOp ts p ins = (lookE p zeroN.t (in0 ins) ins, projK (in0 ins) p.ex) := by unfold lkOp overK kindsK; rw [o]; rfl
    have e3 : colsOv p = p.ex.flatMap colX := by unfold colsOv; rw [o]; rfl
    have e4 : fitsP p (in0 ins) ins = !p.ex.any (fun e => decide (¬ kErr (in0 ins) e = 0)) := by unfold fitsP; rw [o]; rfl
    have e5 : (kindsK p zeroN.t (in0 ins)).length = p.ex.length := by unfold kindsK; rw [o]; show (projK _ _).length = _; unfold projK; simp
    have e6 : (p.ex.flatMap colX).any (fun c => decide (((in0 ins).length : Int) ≤ c)) = p.ex.any (fun e => decide (kErr (in0 ins) e = 1)) := by
      rw [flat_any, Bool.eq_iff_iff, List.any_eq_true, List.any_eq_true]
      constructor
      · rintro ⟨e, he, h⟩
        exact ⟨e, he, decide_eq_true ((kErr_out hk.k (hb e he)).2 h)⟩
      · rintro ⟨e, he, h⟩
        exact ⟨e, he, (kErr_out hk.k (hb e he)).1 (of_decide_eq_true h)⟩
    rw [e1, e2]
    refine ⟨?_, fun _ => rfl⟩
    show lookE p zeroN.t (in0 ins) ins = projE (in0 ins) p.ex
    unfold lookE projE
    rw [e3, e6, e4, e5, if_neg (show ¬ 32 < p.ex.length by omega)]
    cases p.ex.any (fun e => decide (¬ kErr (in0 ins) e = 0)) <;> rfl
  · -- Join
    obtain ⟨h1, h2⟩ := need4 o hn
    obtain ⟨e, he⟩ : ∃ e, p.ex = [e] := List.length_eq_one_iff.1 h2
    have hk : Kin (in0 ins ++ in1 ins) := kin_append (in0_ok hi (by omega)).k (in1_ok hi (by omega)).k
    have hbe := hb e (by rw [he]; exact List.mem_singleton.2 rfl)
    have e1 : chkOp ts p ins = (joinE (in0 ins ++ in1 ins) p, in0 ins ++ in1 ins) := by unfold chkOp; rw [o]; rfl
    have e2 : lkOp ts p ins = (lookE p zeroN.t (in0 ins ++ in1 ins) ins, in0 ins ++ in1 ins) := by unfold lkOp overK kindsK; rw [o]; rfl
    have e3 : colsOv p = colX e := by unfold colsOv; rw [o, he]; simp
    have e4 : fitsP p (in0 ins ++ in1 ins) ins = (kErr (in0 ins ++ in1 ins) e == 0 && kK (in0 ins ++ in1 ins) e != 2) := by unfold fitsP; rw [o, he]; rfl
    have e5 : kindsK p zeroN.t (in0 ins ++ in1 ins) = in0 ins ++ in1 ins := by unfold kindsK; rw [o]; rfl
    have e6 : condP (in0 ins ++ in1 ins) p = condE (in0 ins ++ in1 ins) e := by unfold condP; rw [he]; rfl
    rw [e1, e2]
    refine ⟨?_, fun _ => rfl⟩
    show lookE p zeroN.t (in0 ins ++ in1 ins) ins = joinE (in0 ins ++ in1 ins) p
    unfold lookE joinE
    rw [e3, e4, e5, e6, cond_agree hk hbe]
    generalize in0 ins ++ in1 ins = bs at *
    cases (colX e).any (fun c => decide ((bs.length : Int) ≤ c)) with
    | true => simp
    | false =>
      by_cases h32 : 32 < bs.length
      · cases (kErr bs e == 0 && kK bs e != 2) <;> simp [h32]
      · cases (kErr bs e == 0 && kK bs e != 2) <;> simp [h32]
  · -- Join
    obtain ⟨h1, h2⟩ := need5 o hn
    obtain ⟨e, he⟩ : ∃ e, p.ex = [e] := List.length_eq_one_iff.1 h2
    have hk : Kin (in0 ins ++ in1 ins) := kin_append (in0_ok hi (by omega)).k (in1_ok hi (by omega)).k
    have hbe := hb e (by rw [he]; exact List.mem_singleton.2 rfl)
    have e1 : chkOp ts p ins = (joinE (in0 ins ++ in1 ins) p, in0 ins ++ in1 ins) := by unfold chkOp; rw [o]; rfl
    have e2 : lkOp ts p ins = (lookE p zeroN.t (in0 ins ++ in1 ins) ins, in0 ins ++ in1 ins) := by unfold lkOp overK kindsK; rw [o]; rfl
    have e3 : colsOv p = colX e := by unfold colsOv; rw [o, he]; simp
    have e4 : fitsP p (in0 ins ++ in1 ins) ins = (kErr (in0 ins ++ in1 ins) e == 0 && kK (in0 ins ++ in1 ins) e != 2) := by unfold fitsP; rw [o, he]; rfl
    have e5 : kindsK p zeroN.t (in0 ins ++ in1 ins) = in0 ins ++ in1 ins := by unfold kindsK; rw [o]; rfl
    have e6 : condP (in0 ins ++ in1 ins) p = condE (in0 ins ++ in1 ins) e := by unfold condP; rw [he]; rfl
    rw [e1, e2]
    refine ⟨?_, fun _ => rfl⟩
    show lookE p zeroN.t (in0 ins ++ in1 ins) ins = joinE (in0 ins ++ in1 ins) p
    unfold lookE joinE
    rw [e3, e4, e5, e6, cond_agree hk hbe]
    generalize in0 ins ++ in1 ins = bs at *
    cases (colX e).any (fun c => decide ((bs.length : Int) ≤ c)) with
    | true => simp
    | false =>
      by_cases h32 : 32 < bs.length
      · cases (kErr bs e == 0 && kK bs e != 2) <;> simp [h32]
      · cases (kErr bs e == 0 && kK bs e != 2) <;> simp [h32]
  · -- Group
    obtain ⟨h1, h2, h3, h4⟩ := need6 o hn
    have hk := in0_ok hi (by omega)
    have hk1 := hk.lo
    have e1 : chkOp ts p ins = (grpE (in0 ins) p.cols p.aggs, grpK (in0 ins) p.cols p.aggs) := by unfold chkOp; rw [o]; rfl
    have e2 : lkOp ts p ins = (lookE p zeroN.t (in0 ins) ins, grpK (in0 ins) p.cols p.aggs) := by unfold lkOp overK kindsK; rw [o]; rfl
    have e3 : colsOv p = p.cols ++ p.aggs.map Prod.snd := by unfold colsOv; rw [o]; rfl
    have e4 : fitsP p (in0 ins) ins = !p.aggs.any (aggBad (in0 ins)) := by unfold fitsP; rw [o]; rfl
    have e5 : (kindsK p zeroN.t (in0 ins)).length = p.cols.length + p.aggs.length := by unfold kindsK; rw [o]; show (grpK _ _ _).length = _; unfold grpK; simp
    have e6 : (p.aggs.map Prod.snd).any (fun c => decide (((in0 ins).length : Int) ≤ c)) = p.aggs.any (aggOut (in0 ins).length) := by
      rw [List.any_map, Bool.eq_iff_iff, List.any_eq_true, List.any_eq_true]
      constructor
      · rintro ⟨x, hx, h⟩
        refine ⟨x, hx, ?_⟩
        simp only [Function.comp, decide_eq_true_eq] at h
        unfold aggOut
        have : ¬ x.1 = 1 := fun e => by have := (h4 x hx).2 e; omega
        have b1 : (x.1 != 1) = true := by simpa using this
        rw [b1, Bool.true_and]
        exact decide_eq_true h
      · rintro ⟨x, hx, h⟩
        unfold aggOut at h
        simp only [Bool.and_eq_true] at h
        exact ⟨x, hx, h.2⟩
    rw [e1, e2]
    refine ⟨?_, fun _ => rfl⟩
    show lookE p zeroN.t (in0 ins) ins = grpE (in0 ins) p.cols p.aggs
    unfold lookE grpE
    rw [e3, any_append', e6, e4, e5]
    cases hA : p.cols.any (fun c => decide (((in0 ins).length : Int) ≤ c)) with
    | true => rfl
    | false =>
      cases hB : p.aggs.any (aggOut (in0 ins).length) with
      | true =>
        by_cases h32 : 32 < p.cols.length + p.aggs.length
        · simp [h32]
        · simp [h32]
      | false =>
        by_cases h32 : 32 < p.cols.length + p.aggs.length
        · simp [h32]
        · have e7 : p.aggs.any (aggBad (in0 ins)) = p.aggs.any (aggNo (in0 ins)) := by
            rw [Bool.eq_iff_iff, List.any_eq_true, List.any_eq_true]
            have hat : ∀ x ∈ p.aggs, x.1 = 3 → atK (in0 ins) x.2 = 1 ∨ atK (in0 ins) x.2 = 2 := by
              intro x hx h
              have := any_out hB hx
              unfold aggOut at this
              have b1 : (x.1 != 1) = true := by rw [h]; rfl
              rw [b1, Bool.true_and, decide_eq_false_iff_not] at this
              exact hk.at (h4 x hx).1 (by omega)
            constructor
            · rintro ⟨x, hx, h⟩
              refine ⟨x, hx, ?_⟩
              unfold aggBad at h
              simp only [Bool.and_eq_true, beq_iff_eq] at h
              unfold aggNo
              have h5 : atK (in0 ins) x.2 = 2 := h.2
              rw [h5, h.1]; rfl
            · rintro ⟨x, hx, h⟩
              refine ⟨x, hx, ?_⟩
              unfold aggNo at h
              simp only [Bool.and_eq_true, beq_iff_eq, bne_iff_ne] at h
              have h5 : atK (in0 ins) x.2 = 2 := by
                rcases hat x hx h.1 with h6 | h6
                · exact absurd h6 h.2
                · exact h6
              unfold aggBad
              change (x.1 == 3 && atK (in0 ins) x.2 == 2) = true
              rw [h5, h.1]; rfl
          rw [e7]
          simp only [Bool.false_or, h32, decide_false, Bool.or_self, if_false]
          cases p.aggs.any (aggNo (in0 ins)) <;> rfl
  · -- Distinct
    have h1 := need7 o hn
    have hk := in0_ok hi (by omega)
    have hex := no_ex hs (by rw [o]; rfl)
    have e1 : chkOp ts p ins = (0, in0 ins) := by unfold chkOp; rw [o]; rfl
    have e2 : lkOp ts p ins = (lookE p zeroN.t (in0 ins) ins, in0 ins) := by unfold lkOp overK kindsK; rw [o]; rfl
    have e3 : colsOv p = [] := by unfold colsOv; rw [o, hex]; rfl
    have e4 : fitsP p (in0 ins) ins = true := by unfold fitsP; rw [o]; rfl
    have e5 : kindsK p zeroN.t (in0 ins) = in0 ins := by unfold kindsK; rw [o]; rfl
    rw [e1, e2]
    refine ⟨?_, fun _ => rfl⟩
    show lookE p zeroN.t (in0 ins) ins = 0
    unfold lookE
    rw [e3, e4, e5, if_neg (by simp), if_neg (show ¬ 32 < (in0 ins).length by have := hk.hi; omega)]
    rfl
  · -- Union, Minus
    have h1 : 1 ≤ p.args.length := by have := need8 o hn; omega
    have hk := in0_ok hi (by omega)
    have hex := no_ex hs (by rw [o]; rfl)
    have e1 : chkOp ts p ins = (if (ins.drop 1).any (fun k => !decide (k = in0 ins)) then 4 else 0, in0 ins) := by unfold chkOp; rw [o]; rfl
    have e2 : lkOp ts p ins = (lookE p zeroN.t (in0 ins) ins, in0 ins) := by unfold lkOp overK kindsK; rw [o]; rfl
    have e3 : colsOv p = [] := by unfold colsOv; rw [o, hex]; rfl
    have e4 : fitsP p (in0 ins) ins = !ins.any (fun k => !decide (k = in0 ins)) := by unfold fitsP; rw [o]; rfl
    have e5 : kindsK p zeroN.t (in0 ins) = in0 ins := by unfold kindsK; rw [o]; rfl
    have e6 : ins.any (fun k => !decide (k = in0 ins)) = (ins.drop 1).any (fun k => !decide (k = in0 ins)) := by
      cases ins with
      | nil => rfl
      | cons a l =>
        have : in0 (a :: l) = a := rfl
        rw [this, List.any_cons, List.drop_succ_cons, List.drop_zero]
        simp
    rw [e1, e2]
    refine ⟨?_, fun _ => rfl⟩
    show lookE p zeroN.t (in0 ins) ins = if (ins.drop 1).any (fun k => !decide (k = in0 ins)) then 4 else 0
    unfold lookE
    rw [e3, e4, e5, e6, if_neg (by simp), if_neg (show ¬ 32 < (in0 ins).length by have := hk.hi; omega)]
    cases (ins.drop 1).any (fun k => !decide (k = in0 ins)) <;> rfl
  · -- Top
    have h1 := need9 o hn
    have hk := in0_ok hi (by omega)
    have e1 : chkOp ts p ins = (if (p.keys.map Prod.fst).any (fun c => decide (((in0 ins).length : Int) ≤ c)) then 1 else 0, in0 ins) := by unfold chkOp; rw [o]; rfl
    have e2 : lkOp ts p ins = (lookE p zeroN.t (in0 ins) ins, in0 ins) := by unfold lkOp overK kindsK; rw [o]; rfl
    have e3 : colsOv p = p.keys.map Prod.fst := by unfold colsOv; rw [o]; rfl
    have e4 : fitsP p (in0 ins) ins = true := by unfold fitsP; rw [o]; rfl
    have e5 : kindsK p zeroN.t (in0 ins) = in0 ins := by unfold kindsK; rw [o]; rfl
    rw [e1, e2]
    refine ⟨?_, fun _ => rfl⟩
    show lookE p zeroN.t (in0 ins) ins = if (p.keys.map Prod.fst).any (fun c => decide (((in0 ins).length : Int) ≤ c)) then 1 else 0
    unfold lookE
    rw [e3, e4, e5, if_neg (show ¬ 32 < (in0 ins).length by have := hk.hi; omega), if_pos rfl]
  · -- Window
    obtain ⟨h1, h2, h3⟩ := need10 o hn
    have hk := in0_ok hi (by omega)
    have hk1 := hk.lo
    have e1 : chkOp ts p ins = (winE (in0 ins) p.cols (p.keys.map Prod.fst) p.fn p.col, winK (in0 ins) p.fn p.col) := by unfold chkOp; rw [o]; rfl
    have e2 : lkOp ts p ins = (lookE p zeroN.t (in0 ins) ins, winK (in0 ins) p.fn p.col) := by unfold lkOp overK kindsK; rw [o]; rfl
    have e3 : colsOv p = (p.cols ++ p.keys.map Prod.fst) ++ [p.col] := by unfold colsOv; rw [o]; rfl
    have e4 : fitsP p (in0 ins) ins = (p.fn != 4 || atK (in0 ins) p.col != 2) := by unfold fitsP; rw [o]; rfl
    have e5 : (kindsK p zeroN.t (in0 ins)).length = (in0 ins).length + 1 := by unfold kindsK; rw [o]; show (winK _ _ _).length = _; unfold winK; simp
    have e6 : [p.col].any (fun c => decide (((in0 ins).length : Int) ≤ c)) = (decide (4 ≤ p.fn) && decide (((in0 ins).length : Int) ≤ p.col)) := by
      rw [List.any_cons, List.any_nil, Bool.or_false]
      by_cases h4 : 4 ≤ p.fn
      · rw [decide_eq_true h4, Bool.true_and]
      · have := h3 (by omega)
        rw [decide_eq_false h4, Bool.false_and]
        exact decide_eq_false (by omega)
    rw [e1, e2]
    refine ⟨?_, fun _ => rfl⟩
    show lookE p zeroN.t (in0 ins) ins = winE (in0 ins) p.cols (p.keys.map Prod.fst) p.fn p.col
    unfold lookE winE
    rw [e3, any_append', any_append', e6, e4, e5]
    cases hA : (p.cols.any (fun c => decide (((in0 ins).length : Int) ≤ c)) || (p.keys.map Prod.fst).any (fun c => decide (((in0 ins).length : Int) ≤ c)) || (decide (4 ≤ p.fn) && decide (((in0 ins).length : Int) ≤ p.col))) with
    | true => rfl
    | false =>
      by_cases h32 : 32 ≤ (in0 ins).length
      · have : 32 < (in0 ins).length + 1 := by omega
        simp [h32, this]
      · have h33 : ¬ 32 < (in0 ins).length + 1 := by omega
        simp only [Bool.false_or, decide_eq_false h32, if_neg h33, Bool.false_eq_true, if_false]
        by_cases hf : p.fn = 4
        · have hcl : p.col < ((in0 ins).length : Int) := by
            simp only [Bool.or_eq_false_iff, Bool.and_eq_false_iff, decide_eq_false_iff_not] at hA
            rcases hA.2 with h | h
            · omega
            · omega
          rw [hf]
          rcases hk.at h2 hcl with h | h
          · rw [h]; rfl
          · rw [h]; rfl
        · have b1 : (p.fn != 4) = true := by simpa using hf
          have b2 : (p.fn == 4) = false := by simpa using hf
          rw [b1, b2]; rfl
  · -- Union, Minus
    have h1 : 1 ≤ p.args.length := by have := need11 o hn; omega
    have hk := in0_ok hi (by omega)
    have hex := no_ex hs (by rw [o]; rfl)
    have e1 : chkOp ts p ins = (if (ins.drop 1).any (fun k => !decide (k = in0 ins)) then 4 else 0, in0 ins) := by unfold chkOp; rw [o]; rfl
    have e2 : lkOp ts p ins = (lookE p zeroN.t (in0 ins) ins, in0 ins) := by unfold lkOp overK kindsK; rw [o]; rfl
    have e3 : colsOv p = [] := by unfold colsOv; rw [o, hex]; rfl
    have e4 : fitsP p (in0 ins) ins = !ins.any (fun k => !decide (k = in0 ins)) := by unfold fitsP; rw [o]; rfl
    have e5 : kindsK p zeroN.t (in0 ins) = in0 ins := by unfold kindsK; rw [o]; rfl
    have e6 : ins.any (fun k => !decide (k = in0 ins)) = (ins.drop 1).any (fun k => !decide (k = in0 ins)) := by
      cases ins with
      | nil => rfl
      | cons a l =>
        have : in0 (a :: l) = a := rfl
        rw [this, List.any_cons, List.drop_succ_cons, List.drop_zero]
        simp
    rw [e1, e2]
    refine ⟨?_, fun _ => rfl⟩
    show lookE p zeroN.t (in0 ins) ins = if (ins.drop 1).any (fun k => !decide (k = in0 ins)) then 4 else 0
    unfold lookE
    rw [e3, e4, e5, e6, if_neg (by simp), if_neg (show ¬ 32 < (in0 ins).length by have := hk.hi; omega)]
    cases (ins.drop 1).any (fun k => !decide (k = in0 ins)) <;> rfl
  · -- Empty
    obtain ⟨h1, h2⟩ := need12 o hn
    have hk := KOk.ofB h2
    have hex := no_ex hs (by rw [o]; rfl)
    have e1 : chkOp ts p ins = (0, p.cols) := by unfold chkOp; rw [o]; rfl
    have e2 : lkOp ts p ins = (lookE p zeroN.t [] ins, p.cols) := by unfold lkOp overK kindsK; rw [o]; rfl
    have e3 : colsOv p = [] := by unfold colsOv; rw [o, hex]; rfl
    have e4 : fitsP p [] ins = true := by unfold fitsP; rw [o]; rfl
    have e5 : kindsK p zeroN.t [] = p.cols := by unfold kindsK; rw [o]; rfl
    rw [e1, e2]
    refine ⟨?_, fun _ => rfl⟩
    show lookE p zeroN.t [] ins = 0
    unfold lookE
    rw [e3, e4, e5, if_neg (by simp), if_neg (show ¬ 32 < p.cols.length by have := hk.hi; omega)]
    rfl
set_option maxHeartbeats 1000000 in
set_option maxRecDepth 100000 in
/-- looked$1 (30). -/
theorem named_any (t : Tb) (m : Tm) (s : ByteArray) (q : Nat) (w : World) (hq : w.cell? ⟨q, 1, none⟩ = some (.string s)) :
    Calls Tryz.prog 30 #[t.val m, .pointer (some ⟨q, 0, none⟩)] w fun r w' => r = .returned (.bool (decide (t.name = s))) ∧ Below w.heap.size w w' := by
  have hb0 := below_alloc (Below.refl _ w) (t.box m)
  have c0 := clater hq hb0
  have HB := hide hb0
  have HE := hide (eq_bytes t.name s)
  rw [← unhide HE, Tb.val_open]
  unfold Tb.box at HB c0
  clear hq hb0
  go_enter Tryz.func30, Tryz.ntmps30
  go_wp2
  go_ret
  exact ⟨rfl, unhide HB⟩
/-- IndexFunc of tables, by a name. -/
theorem index_named (ts : List Tb) (hl : ts.length ≤ 1048576) (s : ByteArray) (q : Nat) (a : Option Addr) (c : Nat) (w : World) (ha : Tbs w a ts) (hq : w.cell? ⟨q, 1, none⟩ = some (.string s)) :
    Calls Tryz.prog 29 #[.slice a ts.length c, .func (.func 30) #[] #[.pointer (some ⟨q, 0, none⟩)]] w fun r w' => ∃ n : Int, r = .returned (.int .i64 n) ∧ FoundB (ts.map fun t => decide (t.name = s)) n ∧ Below w.heap.size w w' := by
  obtain ⟨vs, hvl, hls, hv⟩ := tabVals ha
  have h := indexT vs (ts.map fun t => decide (t.name = s)) (by rw [List.length_map, hvl]) a c (.func (.func 30) #[] #[.pointer (some ⟨q, 0, none⟩)]) w (by omega) hls ⟨30, _, rfl, fun args w => by kernel_rfl, fun i v bb W gv gb hW => by
    rw [List.getElem?_map] at gb
    obtain ⟨x, hx, rfl⟩ := Option.map_eq_some_iff.1 gb
    obtain ⟨m, rfl, _⟩ := hv i x v hx gv
    exact named_any x m s q W (clater hq hW)⟩
  rw [hvl] at h
  exact h
theorem found_tab {ts : List Tb} {s : ByteArray} {n : Int} (h : FoundB (ts.map fun t => decide (t.name = s)) n) : (∃ (k : Nat) (t : Tb), n = (k : Int) ∧ ts[k]? = some t ∧ ts.find? (fun t => decide (t.name = s)) = some t) ∨ (n = -1 ∧ ts.find? (fun t => decide (t.name = s)) = none) := by
  rcases h with ⟨k, rfl, hk, hf⟩ | ⟨rfl, hf⟩
  · rw [List.getElem?_map] at hk
    obtain ⟨t, ht, hd⟩ := Option.map_eq_some_iff.1 hk
    refine .inl ⟨k, t, rfl, ht, find_at (k := k) (fun i y hi hy => ?_) ht hd⟩
    exact hf i hi _ (by rw [List.getElem?_map, hy]; rfl)
  · refine .inr ⟨rfl, ?_⟩
    rw [List.find?_eq_none]
    intro t ht
    obtain ⟨i, hi, rfl⟩ := List.mem_iff_getElem.1 ht
    have : decide (ts[i].name = s) = false := hf i _ (by rw [List.getElem?_map, List.getElem?_eq_getElem hi]; rfl)
    rw [this]
    decide
end Go.Proofs.YtcpndojkfngioaaGreat

import Derived.Test.YtihkflcdphebmabRdW
set_option linter.unusedSimpArgs false
set_option linter.unusedVariables false
namespace Go.Proofs.Ytihkflcdphebmab
open Go.RowKit Go.Sort

/-- PackBack's boxes. -/
structure BS (W : World) (X : Vc) (p : Sl) (y : Val) (gy gp : Nat) : Prop where
  bp : W.rowIs gp 27 4 (box4 (.int .i64 X.k) (.slice p.a1 X.nl.length p.c1) (.slice p.a2 X.ns.length p.c2) (.slice p.a3 X.ss.length p.c3))
  bY : W.rowIs gy 40 3 (box3 y)
  vp : VecAt W X p
theorem BS.later {W W' : World} {X : Vc} {p : Sl} {y : Val} {gy gp : Nat} (h : BS W X p y gy gp) (hb : Below W.heap.size W W') : BS W' X p y gy gp :=
  ⟨rowIs_later h.bp hb, rowIs_later h.bY hb, h.vp.later hb⟩
theorem pw_zero {s : ByteArray} {f : Int} (h : PW Vc.zero 1 s f) : f = 1 := by
  have e : badW Vc.zero 1 = true := by decide
  rcases h with ⟨_, _, h⟩ | ⟨h1, _⟩ | ⟨h1, _⟩
  · exact h
  · rw [e] at h1; cases h1
  · rw [e] at h1; cases h1
set_option maxHeartbeats 400000 in
set_option maxRecDepth 100000 in
theorem pb_bad (a : Option Addr) (c : Nat) (kind : Int) (xs : List Val) (i op : Int) (y : Val) (w : World) (hl : xs.length ≤ 4398046511104) (ha : RowAt w a xs) (hf : (fromV kind xs).2 ≠ 0) :
    Calls Try.prog 6 #[.int .i64 kind, .slice a xs.length c, .int .i64 i, .int .i64 op, y.v] w fun e w' => e = .returned (.bool true) ∧ Below w.heap.size w w' := by
  have HF := hide (fun o => from_any a c kind xs (w.alloc o) (by omega) (ha.later (below_alloc (Below.refl _ _) o)))
  rw [from_bad hf] at HF
  generalize (fromV kind xs).2 = f at *
  have hfn : (f != 0) = true := by simpa using hf
  have HW : Hid (∀ W p, VecAt W Vc.zero p → Calls Try.prog 29 #[vecV Vc.zero p, .int .i64 1] W fun e w' => ∃ s, e = .returned (.tuple #[.string s, .int .i64 1]) ∧ Below W.heap.size W w') := fun W p hp => by
    refine (pwrite_any Vc.zero p 1 W ⟨by decide, by decide, by decide⟩ hp).mono ?_
    rintro e w' ⟨s, f, rfl, h, hb⟩
    rw [pw_zero (unhide h)]
    exact ⟨s, rfl, hb⟩
  simp only [vecV_open] at HF HW
  rw [y.open_]
  clear ha hf
  go_enter Try.func6, Try.ntmps6
  go_wp2_with (first
    | (go_at_call 7; refine (unhide HF _).mono ?_; rintro e w1 ⟨p, rfl, hv1, hfr1, hb1⟩)
    | (go_at_call 29; refine (unhide HW _ p (hv1.later (below_alloc (Below.refl _ _) _))).mono ?_; rintro e w2 ⟨s2, rfl, hb2⟩))
  go_ret
  exact ⟨rfl, below_step (below_alloc (below_one hb1) _) hb2⟩
theorem bad_one {X : Vc} (hg : goodB X = true) : badW X 1 = false := by
  unfold badW; rw [hg]; simp
theorem pp_large {X : Vc} (hg : goodB X = true) (hl : 4096 < X.nl.length) {s : ByteArray} {f : Int} (h : PP X s f) : f = 3 := by
  rcases h with ⟨_, h⟩ | ⟨_, _, t, h⟩
  · obtain ⟨⟨n, _, _, hn⟩, _⟩ := pb_one hg 3 s h
    rcases hn with ⟨_, _, h⟩ | ⟨_, _, _, h⟩ | ⟨_, h, _⟩
    · cases h
    · cases h
    · omega
  · rcases h with ⟨h, _⟩ | ⟨_, _, _, h⟩ | ⟨_, h, _⟩
    · rw [bad_one hg] at h; cases h
    · exact h
    · omega
theorem pp_ok {X : Vc} (hg : goodB X = true) (hl : X.nl.length ≤ 4096) {s : ByteArray} {f : Int} (h : PP X s f) : f = 0 ∧ PB X 3 s := by
  rcases h with h | ⟨_, hne, t, h⟩
  · exact h
  · rcases h with ⟨h, _⟩ | ⟨_, h, _⟩ | ⟨_, _, h, _⟩
    · rw [bad_one hg] at h; cases h
    · omega
    · exact absurd h hne
theorem pw_err {X : Vc} (hg : goodB X = true) (hl : X.nl.length ≤ 4096) {n : Nat} (h1 : 1 ≤ n) (h4 : n ≤ 4) {s : ByteArray} {f : Int} (h : PW X (n : Int) s f) (hf : f ≠ 0) : n = 4 ∧ X.k = 2 := by
  rcases h with ⟨h, _⟩ | ⟨_, h, _⟩ | ⟨_, _, h, _⟩
  · unfold badW at h
    rw [hg] at h
    have e1 : decide ((n : Int) < 1) = false := decide_eq_false (by omega)
    have e2 : decide ((4 : Int) < (n : Int)) = false := decide_eq_false (by omega)
    rw [e1, e2] at h
    simp at h
    exact ⟨by omega, h.2⟩
  · omega
  · exact absurd h hf
set_option maxHeartbeats 400000 in
set_option maxRecDepth 100000 in
theorem pb_large (a : Option Addr) (c : Nat) (kind : Int) (xs : List Val) (i op : Int) (y : Val) (w : World) (hl : xs.length ≤ 4398046511104) (ha : RowAt w a xs) {X : Vc} (hf : fromV kind xs = (X, 0)) (hbig : 4096 < xs.length) :
    Calls Try.prog 6 #[.int .i64 kind, .slice a xs.length c, .int .i64 i, .int .i64 op, y.v] w fun e w' => e = .returned (.bool true) ∧ Below w.heap.size w w' := by
  obtain ⟨hg, hk, hv, hf2, hnl, hns, hss, hr⟩ := from_ok hf
  have HF := hide (fun o => from_any a c kind xs (w.alloc o) (by omega) (ha.later (below_alloc (Below.refl _ _) o)))
  rw [hf] at HF
  have HW : Hid (∀ W p, VecAt W X p → Calls Try.prog 30 #[vecV X p] W fun e w' => ∃ s, e = .returned (.tuple #[.string s, .int .i64 3]) ∧ Below W.heap.size W w') := fun W p hp => by
    refine (ppack_any X p W ⟨by omega, by omega, by omega⟩ hp).mono ?_
    rintro e w' ⟨s, f, rfl, h, hb⟩
    rw [pp_large hg (by omega) (unhide h)]
    exact ⟨s, rfl, hb⟩
  simp only [vecV_open] at HF HW
  rw [y.open_]
  have hbi : (4096 : Int) < (xs.length : Int) := by omega
  clear ha hf hg hk hv hf2 hr hnl hns hss
  go_enter Try.func6, Try.ntmps6
  go_wp2_with (first
    | (go_at_call 7; refine (unhide HF _).mono ?_; rintro e w1 ⟨p, rfl, hv1, hfr1, hb1⟩)
    | (go_at_call 30; refine (unhide HW _ p (hv1.later (below_alloc (Below.refl _ _) _))).mono ?_; rintro e w2 ⟨s2, rfl, hb2⟩))
  go_ret
  exact ⟨rfl, below_step (below_alloc (below_one hb1) _) hb2⟩
set_option maxHeartbeats 800000 in
set_option maxRecDepth 100000 in
theorem pb_ok (a : Option Addr) (c : Nat) (kind : Int) (xs : List Val) (i op : Int) (y : Val) (w : World) (hl : xs.length ≤ 4096) (hrx : ∀ x ∈ xs, -9223372036854775808 ≤ x.n ∧ x.n ≤ 9223372036854775807) (ha : RowAt w a xs) {X : Vc} (hf : fromV kind xs = (X, 0)) :
    Calls Try.prog 6 #[.int .i64 kind, .slice a xs.length c, .int .i64 i, .int .i64 op, y.v] w fun e w' => e = .returned (.bool true) ∧ Below w.heap.size w w' := by
  obtain ⟨hg, hk, hv, hf2, hnl, hns, hss, hr⟩ := from_ok hf
  have hsm : small X := ⟨by omega, by omega, by omega⟩
  have hrn := hr hrx
  have HF := hide (fun o => from_any a c kind xs (w.alloc o) (by omega) (ha.later (below_alloc (Below.refl _ _) o)))
  rw [hf] at HF
  have HPK : Hid (∀ W p, VecAt W X p → Calls Try.prog 30 #[vecV X p] W fun e w' => ∃ s, e = .returned (.tuple #[.string s, .int .i64 0]) ∧ Hid (PB X 3 s) ∧ Below W.heap.size W w') := fun W p hp => by
    refine (ppack_any X p W hsm hp).mono ?_
    rintro e w' ⟨s, f, rfl, h, hb⟩
    obtain ⟨e, hpb⟩ := pp_ok hg (by omega) (unhide h)
    rw [e]
    exact ⟨s, rfl, hpb, hb⟩
  have HW := hide (fun W p n hp => pwrite_any X p n W hsm hp)
  have HRD := hide (fun W p s n (hop : Opens s n X.k (valsV X)) hp => reads_any (p := p) hsm hg (by omega) hop hf2 i op y W hp)
  have HBEST : Hid (∀ s, PB X 3 s → (∃ n : Nat, Opens s n X.k (valsV X)) ∧ ∀ (n : Nat) (t : ByteArray), 1 ≤ n → n ≤ 4 → PW X (n : Int) t 0 → s.size ≤ t.size ∧ Opens t n X.k (valsV X)) := fun s hs => by
    obtain ⟨⟨n, n1, n2, hn⟩, hmin⟩ := pb_one hg 3 s hs
    exact ⟨⟨n, pw_opens hrn n1 n2 hn⟩, fun m t m1 m2 ht => ⟨hmin m t m1 m2 ht, pw_opens hrn m1 m2 ht⟩⟩
  have HERR := hide (fun n s f h1 h4 => pw_err (X := X) (n := n) (s := s) (f := f) hg (by omega) h1 h4)
  have HSC := hide (fun s n (hop : Opens s n X.k (valsV X)) W => scheme_any hop W)
  simp only [vecV_open] at HF HPK HW HRD
  rw [y.open_]
  simp only [y.open_] at HRD
  have hni : ¬ (4096 : Int) < (xs.length : Int) := by omega
  clear ha hf hg hk hv hf2 hr hrn hsm hrx hnl hns hss
  go_enter Try.func6, Try.ntmps6
  go_upto_region 2 with (go_at_call 7; refine (unhide HF _).mono ?_; rintro e w1 ⟨p, rfl, hv1, hfr1, hb1⟩)
  obtain ⟨W, hW⟩ : ∃ W, Hid (W = w1.alloc (.cells #[.int .i64 X.k, .slice p.a1 X.nl.length p.c1, .slice p.a2 X.ns.length p.c2, .slice p.a3 X.ss.length p.c3] 27)) := ⟨_, rfl⟩
  have hBS : BS W X p y w.heap.size w1.heap.size := by
    rw [unhide hW]
    have hba := below_alloc (Below.refl _ w1) (.cells #[.int .i64 X.k, .slice p.a1 X.nl.length p.c1, .slice p.a2 X.ns.length p.c2, .slice p.a3 X.ss.length p.c3] 27)
    exact ⟨box4_alloc w1 _ _ _ _, rowIs_later (rowIs_later (box3_alloc w y) hb1) hba, hv1.later hba⟩
  have hBW : Below w.heap.size w W := by rw [unhide hW]; exact below_alloc (below_one hb1) _
  rw [← unhide hW]
  clear hW hb1 hfr1 hv1 HF
  obtain ⟨r0, r1, r2, r3, _⟩ := box_facts hBS.bp
  have HBS := hide hBS
  have HBW := hide hBW
  clear hBS hBW
  go_upto_region 8 with (go_at_call 30; refine (unhide HPK _ p (unhide HBS).vp).mono ?_; rintro e w2 ⟨best, rfl, hpb, hb2⟩)
  obtain ⟨⟨n0, hop0⟩, hbest⟩ := unhide HBEST best (unhide hpb)
  have HBS2 := hide ((unhide HBS).later hb2)
  have HB2 := hide (below_step (unhide HBW) hb2)
  have HR0 := hide (unhide HRD w2 p best n0 hop0 (unhide HBS2).vp)
  have HBST := hide hbest
  obtain ⟨r0, r1, r2, r3, _⟩ := box_facts (unhide HBS2).bp
  obtain ⟨y0, y1, y2, _⟩ := box3_facts (unhide HBS2).bY
  clear hb2 hpb HPK HBS HBW HBEST hop0 hbest
  go_wp2_with (go_at_call 31; refine (unhide HR0).mono ?_; rintro e w3 ⟨rfl, hb3⟩)
  have HBS3 := hide ((unhide HBS2).later hb3)
  have HB3 := hide (below_step (unhide HB2) hb3)
  clear hb3 HBS2 HB2 HR0 r0 r1 r2 r3 y0 y1 y2
  go_loopw [16] (fun s wr => ∃ k : Nat, 1 ≤ k ∧ k ≤ 5 ∧ s = .int .i64 (k : Int) ∧ Below w3.heap.size w3 wr) (fun s _ => 5 - (intOf s).toNat)
  case atStart => exact ⟨1, Nat.le_refl _, by omega, rfl, Below.refl _ _⟩
  case round =>
    obtain ⟨k, hk1, hk5, rfl, hb⟩ := hrel
    have HBR := hide (below_step (unhide HB3) hb)
    have HBR3 := hide hb
    have HBSR := hide ((unhide HBS3).later hb)
    clear hb
    by_cases hk4 : k ≤ 4
    · have h9 : (k : Int) ≤ 4 := by omega
      obtain ⟨r0, r1, r2, r3, _⟩ := box_facts (unhide HBSR).bp
      go_upto_region 14 with (go_at_call 29; refine (unhide HW _ p _ (unhide HBSR).vp).mono ?_; rintro e w4 ⟨s4, f4, rfl, hpw, hb4⟩)
      have HBS4 := hide ((unhide HBSR).later hb4)
      have HB4 := hide (below_step (unhide HBR3) hb4)
      obtain ⟨r0, r1, r2, r3, _⟩ := box_facts (unhide HBS4).bp
      obtain ⟨y0, y1, y2, _⟩ := box3_facts (unhide HBS4).bY
      clear hb4
      by_cases hf4 : f4 = 0
      · subst hf4
        obtain ⟨hsz, hop⟩ := unhide HBST k s4 hk1 hk4 (unhide hpw)
        have hszi : ¬ (s4.size : Int) < (best.size : Int) := by omega
        have HSK := hide (unhide HSC s4 k hop)
        have HRK := hide (fun W hp => unhide HRD W p s4 k hop hp)
        clear hop hpw hsz
        go_wp2_with (first
          | (go_at_call 32; refine (unhide HSK _).mono ?_; rintro e w5 ⟨rfl, hb5⟩; have hBS5 := (unhide HBS4).later hb5; obtain ⟨r0, r1, r2, r3, _⟩ := box_facts hBS5.bp; obtain ⟨y0, y1, y2, _⟩ := box3_facts hBS5.bY)
          | (go_at_call 31; refine (unhide HRK _ hBS5.vp).mono ?_; rintro e w6 ⟨rfl, hb6⟩))
        go_roundw
        case rel => exact ⟨k + 1, by omega, by omega, by go_num, below_step (unhide HB4) (below_step hb5 hb6)⟩
        case measure => simp [intOf]; omega
      · obtain ⟨rfl, hX2⟩ := unhide HERR k s4 f4 hk1 hk4 (unhide hpw) hf4
        have hfn : (f4 != 0) = true := by simpa using hf4
        have hX1 : (X.k == 1) = false := by rw [hX2]; rfl
        clear hX2 hpw hf4
        go_wp2_with fail
        go_roundw
        case rel => exact ⟨5, by omega, by omega, rfl, unhide HB4⟩
        case measure => simp [intOf]
    · have h9 : ¬ (k : Int) ≤ 4 := by omega
      go_wp2
      go_ret
      exact ⟨rfl, unhide HBR⟩
theorem law_pb (a : Option Addr) (c : Nat) (kind : Int) (xs : List Val) (i op : Int) (y : Val) (w : World) (hl : xs.length ≤ 4398046511104) (hrx : ∀ x ∈ xs, -9223372036854775808 ≤ x.n ∧ x.n ≤ 9223372036854775807) (ha : RowAt w a xs) :
    Calls Try.prog 6 #[.int .i64 kind, .slice a xs.length c, .int .i64 i, .int .i64 op, y.v] w fun e w' => e = .returned (.bool true) ∧ Below w.heap.size w w' := by
  by_cases hf : (fromV kind xs).2 = 0
  · have hf' : fromV kind xs = ((fromV kind xs).1, 0) := by rw [← hf]
    by_cases hb : 4096 < xs.length
    · exact pb_large a c kind xs i op y w hl ha hf' hb
    · exact pb_ok a c kind xs i op y w (by omega) hrx ha hf'
  · exact pb_bad a c kind xs i op y w hl ha hf
end Go.Proofs.Ytihkflcdphebmab

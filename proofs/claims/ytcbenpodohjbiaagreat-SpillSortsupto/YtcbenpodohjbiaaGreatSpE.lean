import Derived.Test.YtcbenpodohjbiaaGreatSpD
set_option linter.unusedSimpArgs false
set_option linter.unusedVariables false
set_option maxRecDepth 100000
namespace Go.Proofs.YtcbenpodohjbiaaGreat
open Go.RowKit Go.Sort

/-- A world, and which of its blocks nobody may change. -/
structure Bs where
  w : World
  X : Nat → Prop
def Bs.No (B : Bs) (j : Nat) : Prop := ¬ B.X j
def Bs.Bel (B : Bs) (w : World) : Prop := B.w.heap.size ≤ w.heap.size ∧ ∀ k, B.X k → k < B.w.heap.size ∧ w.heap[k]? = B.w.heap[k]?
/-- Rows that lie in those blocks. -/
def Bs.Rows (B : Bs) (aR : Option Addr) (rs : List (List Val)) : Prop := rs = [] ∨ ∃ b off, aR = some ⟨b, off, none⟩ ∧ B.X b ∧ ∀ i r, rs[i]? = some r → ∃ ra rc, B.w.cell? ⟨b, off + i, none⟩ = some (.slice ra r.length rc) ∧ RowAt B.w ra r ∧ ∀ b' off', ra = some ⟨b', off', none⟩ → r ≠ [] → B.X b'
theorem Bs.new {B : Bs} {w : World} {j : Nat} (h : B.Bel w) (hj : w.heap.size ≤ j) : B.No j := fun hx => by
  have := (h.2 j hx).1
  have := h.1
  omega
theorem Bs.Bel.ky {B : Bs} {F : Nat → Prop} {w w' : World} (h : B.Bel w) (hk : Ky F w w') (hl : ∀ j, F j → B.No j) : B.Bel w' :=
  ⟨Nat.le_trans h.1 hk.size, fun k hx => ⟨(h.2 k hx).1, (hk.block k (Nat.lt_of_lt_of_le (h.2 k hx).1 h.1) (fun f => hl k f hx)).trans (h.2 k hx).2⟩⟩
theorem Bs.Bel.later {B : Bs} {w w' : World} (h : B.Bel w) (hb : Below w.heap.size w w') : B.Bel w' := h.ky (F := fun _ => False) (Ky.of_below hb) (fun _ => False.elim)
theorem Bs.rows_at {B : Bs} {w : World} {aR : Option Addr} {rs : List (List Val)} (h : B.Rows aR rs) (hb : B.Bel w) : RowsT w aR rs := by
  rcases h with h | ⟨b, off, e, hx, h⟩
  · exact .inl h
  · refine .inr ⟨b, off, e, fun i r hr => ?_⟩
    obtain ⟨ra, rc, c0, hra, hxr⟩ := h i r hr
    have ec : ∀ b o, B.X b → w.cell? ⟨b, o, none⟩ = B.w.cell? ⟨b, o, none⟩ := fun b o hx => World.cell?_of_block (w := B.w) (a := ⟨b, o, none⟩) (hb.2 b hx).2
    exact ⟨ra, rc, by rw [ec _ _ hx]; exact c0, hra.kept fun b' off' j e hne => ec _ _ (hxr b' off' e hne)⟩
/-- A stream of rows that came in; k of them are read. -/
structure Stm (w0 : Bs) (w : World) (s b : Nat) (aR : Option Addr) (cR : Nat) (rs : List (List Val)) (k : Nat) : Prop where
  tg : Tg 68 w s
  fr : ∀ i, w.frozen? ⟨s, i, none⟩ = false
  c0 : w.cell? ⟨s, 0, none⟩ = some (.pointer (some ⟨b, 0, none⟩))
  c1 : w.cell? ⟨s, 1, none⟩ = some (.slice aR rs.length cR)
  c2 : w.cell? ⟨s, 2, none⟩ = some (.int .i64 k)
  bl : w0.Bel w
theorem Stm.ky {F : Nat → Prop} {w0 : Bs} {w w' : World} {s b : Nat} {aR : Option Addr} {cR : Nat} {rs : List (List Val)} {k : Nat} (h : Stm w0 w s b aR cR rs k) (hk : Ky F w w') (hn : ¬ F s) (hl : ∀ j, F j → w0.No j) : Stm w0 w' s b aR cR rs k :=
  ⟨hk.tg h.tg hn, fun i => (hk.frozen h.tg.lt hn).trans (h.fr i), hk.cell h.c0 hn, hk.cell h.c1 hn, hk.cell h.c2 hn, h.bl.ky hk hl⟩
theorem Stm.later {w0 : Bs} {w w' : World} {s b : Nat} {aR : Option Addr} {cR : Nat} {rs : List (List Val)} {k : Nat} (h : Stm w0 w s b aR cR rs k) (hb : Below w.heap.size w w') : Stm w0 w' s b aR cR rs k := h.ky (F := fun _ => False) (Ky.of_below hb) id (fun _ => False.elim)
theorem Stm.set {w0 : Bs} {w : World} {s b : Nat} {aR : Option Addr} {cR : Nat} {rs : List (List Val)} {k : Nat} (h : Stm w0 w s b aR cR rs k) (hs : w0.No s) (j : Nat) : Stm w0 (w.setCell ⟨s, 2, none⟩ (.int .i64 j)) s b aR cR rs j := by
  obtain ⟨q1, q2, q3, q4, q5, q6⟩ := h
  refine ⟨q1.set _ _ _, fun i => by rw [World.frozen?_setCell]; exact q2 i, ?_, ?_, ?_, q6.ky (F := fun k => k = s) ((Ky.refl (fun k => k = s) w).set (F := fun k => k = s) rfl q1 (by decide) _ _) (fun j e => by subst e; exact hs)⟩ <;> simp [go_sem, q3, q4, q5]

set_option maxHeartbeats 2000000 in
/-- stream.Next (161), refused. -/
theorem snext_hit {F : Nat → Prop} {w0 : Bs} {w : World} {s b : Nat} {Y : Yv} {op : Option Nat} {aR : Option Addr} {cR : Nat} {rs : List (List Val)} {k : Nat} (h : Py w b Y op F) (hS : Stm w0 w s b aR cR rs k) (hsF : ¬ F s) (hF : ∀ j, F j → w0.No j) (hr : Y.rd = false) (hh : Y.hit = true) (hc : Y.cd ≠ 0) :
    Calls Tryz.prog 161 #[.pointer (some ⟨s, 0, none⟩)] w fun e w' => e = .returned (.tuple #[.slice none 0 0, .bool false, .int .i64 Y.cd]) ∧ Py w' b Y.tick op F ∧ Stm w0 w' s b aR cR rs k ∧ Ky (fun j => j = b ∨ j = s) w w' := by
  have HC := hide (call_any h hr)
  rw [hh] at HC
  have fb : F b := h.1
  have hne : ¬ s = b := fun e => hsF (e ▸ fb)
  have h1 : (Y.cd != 0) = true := by simpa using hc
  have c0 := hS.c0
  have HS := hide hS
  have HF := hide hF
  clear h hS hF hc hh hr
  go_enter Tryz.func161, Tryz.ntmps161
  go_wp2_with (first | (go_at_call 158; refine (unhide HC).mono ?_; rintro _ w1 ⟨rfl, hP, hK⟩; have HP := hide hP; have HK := hide hK; have hS1 := (unhide HS).ky hK hne (fun j e => by subst e; exact unhide HF _ fb); have d1 := hS1.c1; have d2 := hS1.c2; have HS1 := hide hS1; clear hP hK hS1))
  go_region
  go_wp2
  exact bodyPost_ret (v := .tuple #[.slice none 0 0, .bool false, .int .i64 Y.cd]) (by simp [results, Tryz.results161, go_sem]) rfl ⟨rfl, (unhide HP).ky (G := fun _ => False) (Ky.refl _ _).drew (fun _ => False.elim), (unhide HS1).ky (F := fun _ => False) (Ky.refl _ _).drew id (fun _ => False.elim), ((unhide HK).mono fun j e => .inl e).drew⟩

set_option maxHeartbeats 2000000 in
/-- stream.Next, behind the last row. -/
theorem snext_end {F : Nat → Prop} {w0 : Bs} {w : World} {s b : Nat} {Y : Yv} {op : Option Nat} {aR : Option Addr} {cR : Nat} {rs : List (List Val)} (h : Py w b Y op F) (hS : Stm w0 w s b aR cR rs rs.length) (hsF : ¬ F s) (hF : ∀ j, F j → w0.No j) (hr : Y.rd = false) (hh : Y.hit = false) :
    Calls Tryz.prog 161 #[.pointer (some ⟨s, 0, none⟩)] w fun e w' => e = .returned (.tuple #[.slice none 0 0, .bool false, .int .i64 0]) ∧ Py w' b Y.tick op F ∧ Stm w0 w' s b aR cR rs rs.length ∧ Ky (fun j => j = b ∨ j = s) w w' := by
  have HC := hide (call_any h hr)
  rw [hh] at HC
  have fb : F b := h.1
  have hne : ¬ s = b := fun e => hsF (e ▸ fb)
  have c0 := hS.c0
  have HS := hide hS
  have HF := hide hF
  clear h hS hF hh hr
  go_enter Tryz.func161, Tryz.ntmps161
  go_wp2_with (first | (go_at_call 158; refine (unhide HC).mono ?_; rintro _ w1 ⟨rfl, hP, hK⟩; have HP := hide hP; have HK := hide hK; have hS1 := (unhide HS).ky hK hne (fun j e => by subst e; exact unhide HF _ fb); have d1 := hS1.c1; have d2 := hS1.c2; have HS1 := hide hS1; clear hP hK hS1))
  go_region
  go_wp2
  exact bodyPost_ret (v := .tuple #[.slice none 0 0, .bool false, .int .i64 0]) (by simp [results, Tryz.results161, go_sem]) rfl ⟨rfl, (unhide HP).ky (G := fun _ => False) (Ky.refl _ _).drew (fun _ => False.elim), (unhide HS1).ky (F := fun _ => False) (Ky.refl _ _).drew id (fun _ => False.elim), ((unhide HK).mono fun j e => .inl e).drew⟩

set_option maxHeartbeats 4000000 in
/-- stream.Next, of a row. -/
theorem snext_row {F : Nat → Prop} {w0 : Bs} {w : World} {s b : Nat} {Y : Yv} {op : Option Nat} {aR : Option Addr} {cR : Nat} {rs : List (List Val)} {k : Nat} {r : List Val} (h : Py w b Y op F) (hS : Stm w0 w s b aR cR rs k) (hI : w0.Rows aR rs) (hx : rs[k]? = some r) (hrl : r.length ≤ 1048576) (hn : rs.length ≤ 1048576) (hsF : ¬ F s) (hs0 : w0.No s) (hF : ∀ j, F j → w0.No j) (hr : Y.rd = false) (hh : Y.hit = false) (h0 : 0 ≤ Y.held) (h1 : Y.held ≤ 1048576) :
    Calls Tryz.prog 161 #[.pointer (some ⟨s, 0, none⟩)] w fun e w' => ∃ v, e = .returned (.tuple #[v, .bool true, .int .i64 0]) ∧ Rw w' v r ∧ Py w' b (Y.tick.hold 1) op F ∧ Stm w0 w' s b aR cR rs (k + 1) ∧ Ky (fun j => j = b ∨ j = s) w w' := by
  have HC := hide (call_any h hr)
  rw [hh] at HC
  have fb : F b := h.1
  have hne : ¬ s = b := fun e => hsF (e ▸ fb)
  have hkl : k < rs.length := (List.getElem?_eq_some_iff.1 hx).1
  have c0 := hS.c0
  have HS := hide hS
  have HF := hide hF
  have HI := hide hI
  have HX := hide hx
  have i1 : ((k : Int) == (rs.length : Int)) = false := by simp; omega
  have i2 : (k : Int) < (rs.length : Int) := by omega
  have HH0 := hide h0
  have HH1 := hide h1
  clear h hS hF hh hr hI hx h0 h1
  go_enter Tryz.func161, Tryz.ntmps161
  go_upto_region 2 with (first | (go_at_call 158; refine (unhide HC).mono ?_; rintro _ w1 ⟨rfl, hP, hK⟩; have HP := hide hP; have HK := hide hK; have hS1 := (unhide HS).ky hK hne (fun j e => by subst e; exact unhide HF _ fb); have d1 := hS1.c1; have d2 := hS1.c2; have d0 := hS1.c0; have g2 := hS1.fr 2; have HS1 := hide hS1; clear hP hK hS1))
  go_region
  have HS2 := hide ((unhide HS1).ky (F := fun _ => False) (Ky.refl _ _).drew id (fun _ => False.elim) |>.set hs0 (k + 1))
  have HK2 : Hid (Ky (fun j => j = s) w1 (w1.drew.setCell ⟨s, 2, none⟩ (.int .i64 ((k + 1 : Nat) : Int)))) := (Ky.refl (fun j => j = s) w1).drew.set (F := fun j => j = s) rfl (unhide HS1).tg (by decide) _ _
  have HP2 := hide ((unhide HP).ky (unhide HK2) (fun j e => by subst e; exact hsF))
  have HHo := hide (hold_any (unhide HP2) 1 (by have := unhide HH0; show 0 ≤ Y.held + 1; omega) (by have := unhide HH1; show Y.held + 1 ≤ _; omega))
  have ek : ((k + 1 : Nat) : Int) = (k : Int) + 1 := by omega
  rw [ek] at HS2 HK2 HP2 HHo
  go_upto_region 6 with (first | (go_at_call 157; refine (unhide HHo).mono ?_; rintro _ w3 ⟨rfl, hP3, hK3⟩; have HP3 := hide hP3; have HK3 := hide hK3; have hS3 := (unhide HS2).ky hK3 hne (fun j e => by subst e; exact unhide HF _ fb); have e1 := hS3.c1; have e2 := hS3.c2; have HS3 := hide hS3; clear hP3 hK3 hS3))
  obtain ⟨bR, oR, rfl, hR⟩ : ∃ bR oR, aR = some ⟨bR, oR, none⟩ ∧ ∃ ra rc, w3.cell? ⟨bR, oR + k, none⟩ = some (.slice ra r.length rc) ∧ RowAt w3 ra r := by
    rcases Bs.rows_at (unhide HI) (unhide HS3).bl with e | ⟨bR, oR, e, hR⟩
    · rw [e] at hkl; simp at hkl
    · exact ⟨bR, oR, e, hR k r (unhide HX)⟩
  obtain ⟨ra, rc, e3, hra⟩ := hR
  have HCp := hide (fun (w2 : World) (hb : Below w3.heap.size w3 w2) => copied_any ra rc r w2 hrl (hra.later hb))
  clear hra
  obtain ⟨kk, hkk⟩ : ∃ kk : Int, ((k + 1 : Nat) : Int) = kk := ⟨_, rfl⟩
  rw [hkk] at e2
  have e5 : RowKit.wrap64 (kk - 1) = (k : Int) := by rw [← hkk, ← IntWalk.i64_left, IntWalk.i64_in _ (by omega)]; omega
  have e6 : IntKind.i64.wrap (kk - 1) = (k : Int) := by rw [← hkk, IntWalk.i64_in _ (by omega)]; omega
  have e7 : kk - 1 = (k : Int) := by omega
  have e8 : kk = (k : Int) + 1 := by omega
  clear e5 e7 e8
  have HKK := hide hkk
  clear hkk ek
  have hbd : Below w3.heap.size w3 w3.drew := (Below.refl _ _).drew
  go_region_with (first | (go_at_call 159; refine (unhide HCp _ hbd).mono ?_; rintro _ w4 ⟨v4, rfl, hv4, hb4⟩))
  all_goals (go_wp2)
  all_goals (refine bodyPost_ret (v := .tuple #[v4, .bool true, .int .i64 0]) (by simp [results, Tryz.results161, go_sem]) rfl ⟨_, rfl, hv4, ((unhide HP3).later (below_step hbd hb4)), ((unhide HS3).later (below_step hbd hb4)), ?_⟩)
  all_goals exact (((unhide HK).mono fun j e => .inl e).trans ((unhide HK2).mono fun j e => .inr e) (Nw.refl (fun j => j = b ∨ j = s) _)).trans (((unhide HK3).mono fun j e => .inl e).trans (Ky.of_below (F := fun j => j = b ∨ j = s) (below_step hbd hb4)) (Nw.refl _ _)) (Nw.refl _ _)
end Go.Proofs.YtcbenpodohjbiaaGreat

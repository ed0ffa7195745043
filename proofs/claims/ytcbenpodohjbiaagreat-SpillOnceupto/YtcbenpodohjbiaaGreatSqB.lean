import Derived.Test.YtcbenpodohjbiaaGreatSpZ
set_option linter.unusedSimpArgs false
set_option linter.unusedVariables false
set_option maxRecDepth 100000
namespace Go.Proofs.YtcbenpodohjbiaaGreat
open Go.RowKit Go.Sort

theorem OwnH.some {w : World} {vH : Value} {L : List Hd} (h : OwnH w vH L) (hL : 0 < L.length) : ∃ g cH, vH = .slice (some ⟨g, 0, none⟩) L.length cH ∧ L.length ≤ cH := by
  rcases h.1.2 with ⟨_, h0⟩ | ⟨g, cap, cur, e, _, _, h2, _⟩
  · omega
  · exact ⟨g, cap, e, h2⟩
theorem Yo.from {F : Nat → Prop} {w w0 w' : World} {b y m : Nat} {Y : Yv} {op : Option Nat} (hb : Below w.heap.size w w0) (h : Yo w0 w' b y m Y op F) : Yo w w' b y m Y op F := by
  obtain ⟨F1, a1, a2, a3, a4⟩ := h
  exact ⟨F1, fun k hk => (a1 k hk).imp id (fun q => by have := hb.size; omega), a2, a3, (Ky.of_below hb).trans a4 (Nw.refl _ _)⟩

set_option maxHeartbeats 4000000 in
/-- step (67), refused. -/
theorem step_hit {F : Nat → Prop} {w : World} {b y m mg B : Nat} {ks : List (Int × Bool)} {Y : Yv} {op : Option Nat} {L : List Hd} (h : Mw w b y m mg B ks Y op L F) (hL : 0 < L.length) (hrd : Y.rd = false) (hit : Y.hit = true) (hcd : Y.cd ≠ 0) :
    Calls Tryz.prog 67 #[.pointer (some ⟨mg, 0, none⟩)] w fun e w' => e = .returned (.int .i64 Y.cd) ∧ Mo w w' b y m mg B ks Y.tick op L F := by
  obtain ⟨h1, h2, F0, vH, h3, h4, h5, h6, h7, h8, h9⟩ := h
  obtain ⟨g, cH, rfl, hcap⟩ := h8.some hL
  obtain ⟨_, d1, _, _, _⟩ := h8.at (j := 0) hL
  have hbd : Below w.heap.size w w.drew := (Below.refl _ _).drew
  have HC := hide (ynext_hit ((hAt L 0).i : Nat) (h6.later hbd) hrd hit hcd)
  have c0 := h7.c0
  have c2 := h7.c2
  simp only [Nat.zero_mul, Nat.zero_add] at d1
  have j0 : (0 : Int) < (L.length : Int) := by omega
  have hcd' : (Y.cd != 0) = true := by simpa using hcd
  have HF : Hid (∀ w', Yo w.drew w' b y m Y.tick op F0 → Mo w w' b y m mg B ks Y.tick op L F) := fun w' hY => Mw.under h1 h2 h3 h4 h5 h7 h8 h9 (Yo.from hbd hY)
  generalize (hAt L 0).i = i0 at *
  clear h3 h5 h6 h7 h8 h9 hit hrd
  go_enter Tryz.func67, Tryz.ntmps67
  go_upto_region 1 with fail
  go_region_with (first | (go_at_call 99; refine (unhide HC).mono ?_; rintro _ w1 ⟨rfl, hY⟩))
  all_goals (go_wp2; go_ret)
  all_goals exact ⟨rfl, unhide HF _ hY⟩
end Go.Proofs.YtcbenpodohjbiaaGreat

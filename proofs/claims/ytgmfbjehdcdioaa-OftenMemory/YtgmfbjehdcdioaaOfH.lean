import Derived.Test.YtgmfbjehdcdioaaOfG
set_option linter.unusedSimpArgs false
set_option linter.unusedVariables false
namespace Go.Proofs.Ytgmfbjehdcdioaa
open Go.RowKit Go.Sort

theorem Heap.above {n : Nat} {h : Nat → Nat} (hp : Heap n h) {i : Nat} (hi : i < n) : HeapU n h i :=
  ⟨fun c h0 hc _ => hp c h0 hc, fun c h0 hc hpc hi0 => by have h1 := hp c h0 hc; rw [hpc] at h1; have h2 := hp i hi0 hi; omega⟩

theorem QuN.step {w0 w w' : World} {b n : Nat} {S : Value} {E0 E E' : Nat → Nat × Cn} (h : QuN w0 b S n E0 w E) (k : QuN w b S n E w' E') : QuN w0 b S n E0 w' E' :=
  ⟨k.q, h.ky.trans k.ky fun i hi => .inl (h.sub i hi), k.perm.trans h.perm, fun i hi => h.sub i (k.sub i hi), h.box⟩

set_option maxHeartbeats 1000000 in
set_option maxRecDepth 100000 in
theorem fix_any {w : World} {b n : Nat} {S : Value} {E : Nat → Nat × Cn} (h : Qu w b S n E) (hb : ∀ k, fq S n E k → k ≠ b) {i : Nat} (hi : i < n) (hn : n ≤ 2000) (hu : HeapB n (keyE E) i) :
    Calls Try.prog 36 #[.iface 82 (.pointer (some ⟨b, 4, none⟩)), .int .i64 i] w fun e w' => e = .returned (.tuple #[]) ∧ ∃ E', QuN w b S n E w' E' ∧ Heap n (keyE E') := by
  have ml0 := mLen (W := w) h.cell
  obtain ⟨lb, cap, hS⟩ := h.slice (by omega)
  have HD := hide (down_any h hb (m := n) (Nat.le_refl _) (show i ≤ 2000 by omega) hn hu)
  have HUP : Hid (∀ W E', QuN w b S n E W E' → Heap n (keyE E') → Calls Try.prog 54 #[.iface 82 (.pointer (some ⟨b, 4, none⟩)), .int .i64 i] W fun e w' => e = .returned (.tuple #[]) ∧ ∃ E', QuN w b S n E w' E' ∧ Heap n (keyE E')) := fun W E' hQ hH => by
    refine (up_any hQ.q (fun k hk => hQ.box k (hQ.sub k hk)) hi hn (hH.above hi)).mono ?_
    rintro e w' ⟨rfl, E2, q1, q2⟩
    exact ⟨rfl, E2, hQ.step q1, q2⟩
  rw [hS] at ml0
  clear h hu hb
  go_enter Try.func36, Try.ntmps36
  go_wp2_with (go_at_call 93; refine (len_any _ _ _ _).mono ?_; rintro _ _ ⟨rfl, rfl⟩)
  refine (unhide HD).mono ?_
  rintro e w2 ⟨bb, E', rfl, hQ2, hH2, _⟩
  have HU := hide (unhide HUP w2 E' hQ2 hH2)
  have HQ := hide (And.intro hQ2 hH2)
  clear hQ2 hH2
  cases bb
  · go_wp2_with (go_at_call 54; refine (unhide HU).mono ?_; rintro _ w3 ⟨rfl, HR⟩; replace HR := hide HR)
    go_end0
    exact ⟨rfl, unhide HR⟩
  · go_wp2
    go_end0
    exact ⟨rfl, E', unhide HQ⟩
end Go.Proofs.Ytgmfbjehdcdioaa

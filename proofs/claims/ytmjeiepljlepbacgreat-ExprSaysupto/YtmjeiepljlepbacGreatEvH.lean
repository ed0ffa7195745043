import Derived.Test.YtmjeiepljlepbacGreatEvE
set_option linter.unusedSimpArgs false
set_option linter.unusedVariables false
namespace Go.Proofs.YtmjeiepljlepbacGreat
open Go.RowKit Go.Sort

set_option maxHeartbeats 400000 in
set_option maxRecDepth 100000 in
/-- tallylaw.SameNums (32) of two lists that are one. -/
theorem samenums_one (xs : List Int) (a b : Option Addr) (c d : Nat) (w : World) (hl : xs.length ≤ 140737488355328) (ha : IntsAt w a xs) (hb : IntsAt w b xs) :
    Calls Tryz.prog 32 #[.slice a xs.length c, .slice b xs.length d] w fun r w' => r = .returned (.bool true) ∧ Below w.heap.size w w' := by
  have HA := hide (fun W (hW : Below w.heap.size w W) => ha.later hW)
  have HB := hide (fun W (hW : Below w.heap.size w W) => hb.later hW)
  clear ha hb
  go_enter Tryz.func32, Tryz.ntmps32
  go_wp2
  go_loopw [13] (fun i wr => ∃ k : Nat, k ≤ xs.length ∧ i = .int .i64 (k : Int) ∧ Hid (Below w.heap.size w wr)) (fun i _ => xs.length - (intOf i).toNat)
  case atStart => exact ⟨0, Nat.zero_le _, rfl, Below.refl _ _⟩
  case round =>
    obtain ⟨k, hk, rfl, HBr⟩ := hrel
    by_cases hlt : k < xs.length
    · have h9 : (k : Int) < (xs.length : Int) := by omega
      obtain ⟨x, hx⟩ : ∃ x, xs[k]? = some x := ⟨_, List.getElem?_eq_getElem hlt⟩
      obtain ⟨g, o, ea, d0⟩ := (unhide HA _ (unhide HBr)).get hx
      obtain ⟨g', o', ea', d1⟩ := (unhide HB _ (unhide HBr)).get hx
      subst ea ea'
      clear hx
      have HBd := hide (below_step (unhide HBr) (Below.refl _ wr).drew)
      clear HA HB
      go_upto_region 6 with fail
      go_cut [24] (fun v wx => v = .bool false ∧ Hid (Below w.heap.size w wx))
      case first =>
        go_region_with fail
        all_goals (go_wp2; go_meet; exact ⟨rfl, unhide HBd⟩)
      case rest =>
        obtain ⟨rfl, HB2⟩ := hcut
        go_wp2
        exact ⟨⟨k + 1, by omega, by go_num, unhide HB2⟩, by simp [intOf]; omega⟩
    · have h9 : ¬ (k : Int) < (xs.length : Int) := by omega
      go_wp2
      go_ret
      exact ⟨rfl, unhide HBr⟩
/-- What SameExpr (40) answers of an expression and itself. -/
def SameC (x : Ex) : Prop := ∀ (a a' : Option Addr) (c c' : Nat) (W : World), Ex.all W a x.args → Ex.all W a' x.args → Calls Tryz.prog 40 #[x.val a c, x.val a' c'] W fun r w' => r = .returned (.bool true) ∧ Below W.heap.size W w'
set_option maxHeartbeats 1000000 in
set_option maxRecDepth 100000 in
/-- tallylaw.SameExprs (35) of two lists that are one. -/
theorem sameexprs_one (xs : List Ex) (hs : ∀ x ∈ xs, SameC x) (a b : Option Addr) (c d : Nat) (w : World) (hl : xs.length ≤ 140737488355328) (ha : Ex.all w a xs) (hb : Ex.all w b xs) :
    Calls Tryz.prog 35 #[.slice a xs.length c, .slice b xs.length d] w fun r w' => r = .returned (.bool true) ∧ Below w.heap.size w w' := by
  have HA := hide (fun W (hW : Below w.heap.size w W) => Ex.all_later _ ha hW)
  have HB := hide (fun W (hW : Below w.heap.size w W) => Ex.all_later _ hb hW)
  have HS := hide hs
  clear ha hb hs
  go_enter Tryz.func35, Tryz.ntmps35
  go_wp2
  go_loopw [13] (fun i wr => ∃ k : Nat, k ≤ xs.length ∧ i = .int .i64 (k : Int) ∧ Hid (Below w.heap.size w wr)) (fun i _ => xs.length - (intOf i).toNat)
  case atStart => exact ⟨0, Nat.zero_le _, rfl, Below.refl _ _⟩
  case round =>
    obtain ⟨k, hk, rfl, HBr⟩ := hrel
    by_cases hlt : k < xs.length
    · have h9 : (k : Int) < (xs.length : Int) := by omega
      obtain ⟨x, hx⟩ : ∃ x, xs[k]? = some x := ⟨_, List.getElem?_eq_getElem hlt⟩
      obtain ⟨g, o, ea, hat⟩ := Ex.all_get (unhide HA _ (unhide HBr)) hx
      obtain ⟨a1, c1, ⟨d0, d1, d2, d3, d4, d5⟩, hal⟩ := Ex.at_open hat
      obtain ⟨g', o', ea', hat'⟩ := Ex.all_get (unhide HB _ (unhide HBr)) hx
      obtain ⟨a2, c2, ⟨e0, e1, e2, e3, e4, e5⟩, hal'⟩ := Ex.at_open hat'
      have HC := hide (unhide HS x (List.mem_of_getElem? hx) a1 a2 c1 c2 wr.drew (Ex.all_later _ hal (Below.refl _ _).drew) (Ex.all_later _ hal' (Below.refl _ _).drew))
      rw [Ex.val_open, Ex.val_open] at HC
      have HBd := hide (below_step (unhide HBr) (Below.refl _ wr).drew)
      subst ea ea'
      clear hx hat hat' hal hal' HS HA HB
      go_upto_region 6 with fail
      go_cut [25] (fun v wx => v = .bool false ∧ Hid (Below w.heap.size w wx))
      case first =>
        go_region_with (go_at_call 40; refine (unhide HC).mono ?_; rintro r w1 ⟨rfl, hb1⟩)
        all_goals (go_wp2; go_meet; exact ⟨rfl, below_step (unhide HBd) hb1⟩)
      case rest =>
        obtain ⟨rfl, HB2⟩ := hcut
        go_wp2
        exact ⟨⟨k + 1, by omega, by go_num, unhide HB2⟩, by simp [intOf]; omega⟩
    · have h9 : ¬ (k : Int) < (xs.length : Int) := by omega
      go_wp2
      go_ret
      exact ⟨rfl, unhide HBr⟩
end Go.Proofs.YtmjeiepljlepbacGreat

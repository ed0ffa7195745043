import Derived.Test.YtmgnndbcbalafaaMdH
import Derived.Shelf.Spec.SlicesInsertGrow
import Derived.Laws.CopyRow
import Derived.Laws.CopyOwn
set_option linter.unusedSimpArgs false
set_option linter.unusedVariables false
namespace Go.Proofs.Ytmgnndbcbalafaa
open Go.RowKit Go.Sort

theorem own_of_row {w : World} {g n cap : Nat} {cur : Array Value} {ys : List Int} (h : w.heap[g]? = some (.cells cur 2 (0, 0))) (hc : cur.size = cap) (hn : n ≤ cap) (h63 : cap ≤ maxLen) (hy : ys.length = n) (ht : cur.toList.take n = ints ys) :
    w.ownsRow 0 2 1 (.slice (some ⟨g, 0, none⟩) n cap) n (ints ys) :=
  ⟨by rw [ints_len, hy, Nat.mul_one], .inr ⟨g, cap, cur, rfl, Nat.zero_le _, h, hn, h63, by rw [hc, Nat.mul_one], by rw [Nat.mul_one, ht]⟩⟩
/-- First a hole of one place, then the number. -/
theorem ins_room {L D : List Value} {x : Value} {p n : Nat} (hp : p ≤ n) (hL : n + 1 ≤ L.length) (hD : D = (L.drop p).take (n - p)) :
    (((L.take (p + 1) ++ D ++ L.drop (p + 1 + D.length)).take p ++ [x] ++ (L.take (p + 1) ++ D ++ L.drop (p + 1 + D.length)).drop (p + [x].length)).take (n + 1)) = L.take p ++ x :: D := by
  have hd : D.length = n - p := by rw [hD, List.length_take, List.length_drop]; omega
  have h1 : (L.take (p + 1)).length = p + 1 := by rw [List.length_take]; omega
  have e1 : (L.take (p + 1) ++ D ++ L.drop (p + 1 + D.length)).take p = L.take p := by
    rw [List.append_assoc, List.take_append_of_le_length (by omega), List.take_take, Nat.min_eq_left (by omega)]
  have e2 : (L.take (p + 1) ++ D ++ L.drop (p + 1 + D.length)).drop (p + [x].length) = D ++ L.drop (p + 1 + D.length) := by
    rw [List.append_assoc, show p + [x].length = (L.take (p + 1)).length by rw [h1]; rfl, List.drop_left']
    rfl
  rw [e1, e2]
  have h2 : (L.take p).length = p := by rw [List.length_take]; omega
  rw [show L.take p ++ [x] ++ (D ++ L.drop (p + 1 + D.length)) = (L.take p ++ x :: D) ++ L.drop (p + 1 + D.length) by simp, List.take_append_of_le_length (by simp [h2, hd]; omega), List.take_of_length_le (by simp [h2, hd]; omega)]
/-- In new memory: first the number, then what stands behind it. -/
theorem ins_grow {A Z D : List Value} {x : Value} {p n : Nat} (hp : p ≤ n) (hA : A.length = p) (hL : n + 1 ≤ (A ++ Z).length) (hd : D.length = n - p) :
    ((((A ++ Z).take p ++ [x] ++ (A ++ Z).drop (p + [x].length)).take (p + 1) ++ D ++ ((A ++ Z).take p ++ [x] ++ (A ++ Z).drop (p + [x].length)).drop (p + 1 + D.length)).take (n + 1)) = A ++ x :: D := by
  have e0 : (A ++ Z).take p = A := by rw [← hA, List.take_left']; rfl
  rw [e0]
  have e1 : (A ++ [x] ++ (A ++ Z).drop (p + [x].length)).take (p + 1) = A ++ [x] := by
    rw [show p + 1 = (A ++ [x]).length by simp [hA], List.take_left']; rfl
  rw [e1, show A ++ [x] ++ D = A ++ x :: D by simp, List.take_append_of_le_length (by simp [hA, hd]; omega), List.take_of_length_le (by simp [hA, hd]; omega)]

theorem ints_drop (zs : List Int) (p : Nat) : ints (zs.drop p) = (ints zs).drop p := by simp [ints]
theorem ints_take (zs : List Int) (p : Nat) : ints (zs.take p) = (ints zs).take p := by simp [ints]
theorem ints_one (zs : List Int) : ∀ u ∈ ints zs, u.oneCell' = true := by
  intro u hu; simp only [ints, List.mem_map] at hu; obtain ⟨x, _, rfl⟩ := hu; rfl
theorem setRow_at (w : World) (g : Nat) (cur new : Array Value) (t : TypeId) (fr : Nat × Nat) (hg : w.heap[g]? = some (.cells cur t fr)) : (w.setRow g new).heap[g]? = some (.cells new t fr) := by
  simp [World.setRow, Array.getElem?_modify, hg]

/-- What Insert answers. -/
def InsA (w : World) (s : Value) (zs : List Int) (p : Nat) (x : Int) (e : Ending) (w' : World) : Prop :=
  ∃ a5 c5, e = .returned (.slice a5 (zs.length + 1) c5) ∧ w'.ownsRow 0 2 1 (.slice a5 (zs.length + 1) c5) (zs.length + 1) (ints (zs.take p ++ x :: zs.drop p)) ∧ w.grownBy w' s.ownBlock ∧ ((Value.slice a5 (zs.length + 1) c5).ownBlock = s.ownBlock ∨ ∃ k, (Value.slice a5 (zs.length + 1) c5).ownBlock = some k ∧ w.heap.size ≤ k)

theorem wpList_app_any {ops : Array Oper} {rest : List Oper} {o : Oper} {a : Act} {w : World} {Q : Exit → Act → World → Prop} (hgd : o.guard = none) (d x : Operand)
    (hop : o.op = Op.call { callee := Callee.builtin Builtin.append, args := #[d, x], argTypes := #[23, 23] })
    (s : Value) (zs : List Int) (hd : a.eval d = s) (ho : w.ownsRow 0 2 1 s zs.length (ints zs)) (ad : Option Addr) (c : Nat) (ms : List Int) (hx : a.eval x = .slice ad ms.length c) (hm : NumAt w ad ms) (hn : ad = none → ms = [] ∧ c = 0) (hl : zs.length + ms.length ≤ 1048576) (ZS : List Int) (hZ : zs ++ ms = ZS)
    (h : ∀ a5 c5 w1, w1.ownsRow 0 2 1 (.slice a5 ZS.length c5) ZS.length (ints ZS) → w.grownBy w1 s.ownBlock → ((Value.slice a5 ZS.length c5).ownBlock = s.ownBlock ∨ (Value.slice a5 ZS.length c5).ownBlock = some w.heap.size) → wpList Try.prog ops Q rest (a.put o.dst (.slice a5 ZS.length c5)) w1) :
    wpList Try.prog ops Q (o :: rest) a w := by
  refine wpList_plain hgd fun K hK => ?_
  obtain ⟨s', w1, hr, h2, h3, h4⟩ := run_app_any w o.type s zs ho ad c ms hm hn hl
  rw [hZ] at h2
  obtain ⟨a5, c5, rfl, _⟩ := num_of_own h2
  unfold Oper.wp execOp
  simp only [hop, resolve, invoke, builtin, Sem.run_bind, Sem.run_pure, Result.andThen_ok, List.map_toArray, List.map_cons, List.map_nil, hd, hx, hr]
  exact hK _ _ (h a5 c5 w1 h2 h3 h4)

theorem one_at {w : World} {vb : Nat} {x : Int} (hv : w.heap[vb]? = some (.cells #[.int .i64 x] 2 (0, 0))) : NumAt w (some ⟨vb, 0, none⟩) [x] :=
  .inr ⟨vb, 0, rfl, fun i y hy => by
    match i, hy with
    | 0, hy => simp at hy; subst hy; simp [World.cell?, hv]
    | i + 1, hy => simp at hy⟩

set_option maxHeartbeats 1000000 in
set_option maxRecDepth 100000 in
theorem ins_end (w : World) (s : Value) (zs : List Int) (x : Int) (vb : Nat) (ho : w.ownsRow 0 2 1 s zs.length (ints zs)) (hl : zs.length ≤ 1000000) (hv : w.heap[vb]? = some (.cells #[.int .i64 x] 2 (0, 0))) :
    Calls Try.prog 11 #[s, .int .i64 zs.length, .slice (some ⟨vb, 0, none⟩) 1 1] w fun e w' => InsA w s zs zs.length x e w' := by
  obtain ⟨ZS, hZS⟩ : ∃ ZS, zs ++ [x] = ZS := ⟨_, rfl⟩
  have hZL : ZS.length = zs.length + 1 := by rw [← hZS]; simp
  have HZS := hide hZS
  have HO := hide ho
  have HV := hide (one_at hv)
  have HZL := hide hZL
  have HF : Hid (∀ a5 c5 w1, w1.ownsRow 0 2 1 (.slice a5 ZS.length c5) ZS.length (ints ZS) → w.grownBy w1 s.ownBlock → ((Value.slice a5 ZS.length c5).ownBlock = s.ownBlock ∨ (Value.slice a5 ZS.length c5).ownBlock = some w.heap.size) → InsA w s zs zs.length x (.returned (.slice a5 ZS.length c5)) w1) := fun a5 c5 w1 h1 h2 h3 => by
    rw [unhide HZL] at h1 h3 ⊢
    refine ⟨a5, c5, rfl, ?_, h2, h3.imp id fun e => ⟨_, e, Nat.le_refl _⟩⟩
    rw [List.take_length, List.drop_length, unhide HZS]; exact h1
  rcases ho.2 with ⟨rfl, h0⟩ | ⟨g, cap, cur, rfl, _, _, h3, h4, _⟩
  · have : zs = [] := List.eq_nil_of_length_eq_zero h0
    subst this
    clear ho hv hZS hZL
    go_enter Try.func11, Try.ntmps11
    go_wp2_with (at_builtin; refine wpList_app_any rfl (.tmp 23) (.tmp 24) rfl _ [] rfl (unhide HO) (some ⟨vb, 0, none⟩) 1 [x] rfl (unhide HV) (fun e => by cases e) (by simp) ZS (unhide HZS) ?_; intro a5 c5 w5 ho5 hg5 hat5; have HR := hide (unhide HF a5 c5 w5 ho5 hg5 hat5); clear ho5 hg5 hat5)
    go_ret
    exact unhide HR
  · have i1 : (zs.length : Int) ≤ (cap : Int) := by omega
    have i4 : (cap : Int) ≤ 9223372036854775807 := by unfold maxLen at h4; omega
    clear ho hv hZS hZL h3 h4
    by_cases hcc : cap = zs.length
    · subst hcc
      go_enter Try.func11, Try.ntmps11
      go_wp2_with (at_builtin; refine wpList_app_any rfl (.tmp 23) (.tmp 24) rfl _ zs rfl (unhide HO) (some ⟨vb, 0, none⟩) 1 [x] rfl (unhide HV) (fun e => by cases e) (by simp; omega) ZS (unhide HZS) ?_; intro a5 c5 w5 ho5 hg5 hat5; have HR := hide (unhide HF a5 c5 w5 ho5 hg5 hat5); clear ho5 hg5 hat5)
      go_ret
      exact unhide HR
    · go_enter Try.func11, Try.ntmps11
      go_wp2_with (at_builtin; refine wpList_app_any rfl (.tmp 23) (.tmp 24) rfl _ zs rfl (unhide HO) (some ⟨vb, 0, none⟩) 1 [x] rfl (unhide HV) (fun e => by cases e) (by simp; omega) ZS (unhide HZS) ?_; intro a5 c5 w5 ho5 hg5 hat5; have HR := hide (unhide HF a5 c5 w5 ho5 hg5 hat5); clear ho5 hg5 hat5)
      go_ret
      exact unhide HR
end Go.Proofs.Ytmgnndbcbalafaa

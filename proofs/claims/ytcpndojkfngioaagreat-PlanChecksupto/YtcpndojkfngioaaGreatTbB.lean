import Derived.Test.YtcpndojkfngioaaGreatPlH
set_option linter.unusedSimpArgs false
set_option linter.unusedVariables false
namespace Go.Proofs.YtcpndojkfngioaaGreat
open Go.RowKit Go.Sort

/-- Columns of a table: a name, and a kind. -/
def ColsT (w : World) (a : Option Addr) (l : List (ByteArray × Int)) : Prop := l = [] ∨ ∃ b off, a = some ⟨b, off, none⟩ ∧ ∀ i x, l[i]? = some x → w.cell? ⟨b, off + i * 2, none⟩ = some (.string x.1) ∧ w.cell? ⟨b, off + i * 2 + 1, none⟩ = some (.int .i64 x.2)
theorem ColsT.later {w w' : World} {a : Option Addr} {l : List (ByteArray × Int)} (h : ColsT w a l) (hb : Below w.heap.size w w') : ColsT w' a l := by
  rcases h with h | ⟨b, off, ha, h⟩
  · exact .inl h
  · exact .inr ⟨b, off, ha, fun i x hx => ⟨clater (h i x hx).1 hb, clater (h i x hx).2 hb⟩⟩
theorem ColsT.get {w : World} {a : Option Addr} {l : List (ByteArray × Int)} {i : Nat} {x : ByteArray × Int} (h : ColsT w a l) (hx : l[i]? = some x) : ∃ b off, a = some ⟨b, off, none⟩ ∧ w.cell? ⟨b, off + i * 2, none⟩ = some (.string x.1) ∧ w.cell? ⟨b, off + i * 2 + 1, none⟩ = some (.int .i64 x.2) := by
  rcases h with h | ⟨b, off, ha, h⟩
  · rw [h] at hx; simp at hx
  · exact ⟨b, off, ha, h i x hx⟩
/-- Rows of a table. -/
def RowsT (w : World) (a : Option Addr) (rs : List (List Val)) : Prop := rs = [] ∨ ∃ b off, a = some ⟨b, off, none⟩ ∧ ∀ i r, rs[i]? = some r → ∃ ra rc, w.cell? ⟨b, off + i, none⟩ = some (.slice ra r.length rc) ∧ RowAt w ra r
theorem RowsT.later {w w' : World} {a : Option Addr} {rs : List (List Val)} (h : RowsT w a rs) (hb : Below w.heap.size w w') : RowsT w' a rs := by
  rcases h with h | ⟨b, off, ha, h⟩
  · exact .inl h
  · exact .inr ⟨b, off, ha, fun i r hr => by obtain ⟨ra, rc, h1, h2⟩ := h i r hr; exact ⟨ra, rc, clater h1 hb, h2.later hb⟩⟩
/-- A table. -/
structure Tb where
  name : ByteArray
  cols : List (ByteArray × Int)
  rows : List (List Val)
structure Tm where
  aC : Option Addr
  cC : Nat
  aR : Option Addr
  cR : Nat
def Tb.val (t : Tb) (m : Tm) : Value := .agg #[.string t.name, .slice m.aC t.cols.length m.cC, .slice m.aR t.rows.length m.cR]
theorem Tb.val_open (t : Tb) (m : Tm) : t.val m = .agg #[.string t.name, .slice m.aC t.cols.length m.cC, .slice m.aR t.rows.length m.cR] := rfl
abbrev Tb.box (t : Tb) (m : Tm) : Obj := .cells #[.string t.name, .slice m.aC t.cols.length m.cC, .slice m.aR t.rows.length m.cR] 45
structure Tri (w : World) (b off : Nat) (t : Tb) (m : Tm) : Prop where
  c0 : w.cell? ⟨b, off, none⟩ = some (.string t.name)
  c1 : w.cell? ⟨b, off + 1, none⟩ = some (.slice m.aC t.cols.length m.cC)
  c2 : w.cell? ⟨b, off + 2, none⟩ = some (.slice m.aR t.rows.length m.cR)
theorem Tri.later {w w' : World} {b off : Nat} {t : Tb} {m : Tm} (h : Tri w b off t m) (hb : Below w.heap.size w w') : Tri w' b off t m := ⟨clater h.c0 hb, clater h.c1 hb, clater h.c2 hb⟩
theorem Tri.new (w : World) (t : Tb) (m : Tm) : Tri (w.alloc (t.box m)) w.heap.size 0 t m := ⟨by simp [go_sem], by simp [go_sem], by simp [go_sem]⟩
theorem Tri.load {w : World} {b off : Nat} {t : Tb} {m : Tm} (h : Tri w b off t m) : (Instr.loadAt 45 (.pointer (some ⟨b, off, none⟩))).run Tryz.prog w = .ok (t.val m) w := by
  obtain ⟨c0, c1, c2⟩ := h
  unfold Tb.val
  go_simp
structure TbM (w : World) (t : Tb) (m : Tm) : Prop where
  c : ColsT w m.aC t.cols
  r : RowsT w m.aR t.rows
theorem TbM.later {w w' : World} {t : Tb} {m : Tm} (h : TbM w t m) (hb : Below w.heap.size w w') : TbM w' t m := ⟨h.c.later hb, h.r.later hb⟩
/-- Tables, as they lie in memory. -/
def Tbs (w : World) (a : Option Addr) (l : List Tb) : Prop := l = [] ∨ ∃ b off, a = some ⟨b, off, none⟩ ∧ ∀ i t, l[i]? = some t → ∃ m, Tri w b (off + i * 3) t m ∧ TbM w t m
theorem Tbs.later {w w' : World} {a : Option Addr} {l : List Tb} (h : Tbs w a l) (hb : Below w.heap.size w w') : Tbs w' a l := by
  rcases h with h | ⟨b, off, ha, h⟩
  · exact .inl h
  · exact .inr ⟨b, off, ha, fun i t ht => by obtain ⟨m, h1, h2⟩ := h i t ht; exact ⟨m, h1.later hb, h2.later hb⟩⟩
theorem Tbs.get {w : World} {a : Option Addr} {l : List Tb} {i : Nat} {t : Tb} (h : Tbs w a l) (ht : l[i]? = some t) : ∃ b off m, a = some ⟨b, off, none⟩ ∧ Tri w b (off + i * 3) t m ∧ TbM w t m := by
  rcases h with h | ⟨b, off, ha, h⟩
  · rw [h] at ht; simp at ht
  · obtain ⟨m, h1, h2⟩ := h i t ht; exact ⟨b, off, m, ha, h1, h2⟩
/-- Its lengths and numbers are such as there are. -/
structure Tb.fin (t : Tb) : Prop where
  n : t.name.size ≤ 1048576
  c : t.cols.length ≤ 1048576
  cn : ∀ x ∈ t.cols, x.1.size ≤ 1048576
  r : t.rows.length ≤ 1048576
  rr : ∀ r ∈ t.rows, r.length ≤ 1048576
set_option maxRecDepth 100000 in
/-- isNoName (59). -/
theorem noName_any (s : ByteArray) (hs : s.size ≤ 140737488355328) (w : World) : Calls Tryz.prog 59 #[.string s] w fun r w' => r = .returned (.bool (!nameB s)) ∧ Below w.heap.size w w' := by
  have HC := hide (isname_any s hs)
  generalize nameB s = nb at *
  go_enter Tryz.func59, Tryz.ntmps59
  go_wp2_with (go_at_call 80; refine (unhide HC _).mono ?_; rintro r w1 ⟨rfl, hb1⟩)
  go_ret
  exact ⟨rfl, hb1⟩
theorem strload {w : World} {b o : Nat} {x : ByteArray} (h : w.cell? ⟨b, o, none⟩ = some (.string x)) : (Instr.loadAt 9 (.pointer (some ⟨b, o, none⟩))).run Tryz.prog w = .ok (.string x) w := by
  go_simp
theorem lstS {w : World} {a : Option Addr} {xs : List ByteArray} (h : StrsAt w a xs) : LstS w a (xs.map fun x => .string x) := by
  rcases h with h | ⟨b, off, ha, h⟩
  · exact .inl (by rw [h]; rfl)
  · refine .inr ⟨b, off, ha, fun i v hv W hW => ?_⟩
    rw [List.getElem?_map] at hv
    obtain ⟨x, hx, rfl⟩ := Option.map_eq_some_iff.1 hv
    exact strload (clater (h i x hx) hW)
theorem containsS_no (xs : List ByteArray) (a : Option Addr) (c : Nat) (w : World) (hl : xs.length ≤ 140737488355328) (hx : ∀ x ∈ xs, x.size ≤ 140737488355328) (ha : StrsAt w a xs) :
    Calls Tryz.prog 58 #[.slice a xs.length c, .func (.func 59) #[] #[]] w fun r w' => r = .returned (.bool (xs.any fun x => !nameB x)) ∧ Below w.heap.size w w' := by
  have h := containsS (xs.map fun x => .string x) (xs.map fun x => !nameB x) (by simp) a c (.func (.func 59) #[] #[]) w (by simpa using hl) (lstS ha) ⟨59, #[], rfl, fun args w => by kernel_rfl, fun i v bb W hv hb _ => by
    rw [List.getElem?_map] at hv hb
    obtain ⟨x, hx', rfl⟩ := Option.map_eq_some_iff.1 hv
    rw [hx'] at hb
    injection hb with hb
    subst hb
    exact noName_any x (hx x (List.mem_of_getElem? hx')) W⟩
  rw [List.length_map, List.any_map] at h
  exact h
/-- Names, no two alike. -/
def namesB (xs : List ByteArray) : Bool := !(xs.any fun x => !nameB x) && decide xs.Nodup
set_option maxRecDepth 100000 in
/-- areNames (28). -/
theorem areNames_any (xs : List ByteArray) (a : Option Addr) (c : Nat) (w : World) (hl : xs.length ≤ 140737488355328) (hx : ∀ x ∈ xs, x.size ≤ 140737488355328) (ha : StrsAt w a xs) :
    Calls Tryz.prog 28 #[.slice a xs.length c] w fun r w' => r = .returned (.bool (namesB xs)) ∧ Below w.heap.size w w' := by
  have HC := hide (containsS_no xs a c w hl hx ha)
  have HU := hide (fun (W : World) (hW : Below w.heap.size w W) => unlikeS_any xs a c W hl hx (ha.later hW))
  unfold namesB
  generalize decide xs.Nodup = nd at *
  cases hn : xs.any (fun x => !nameB x)
  · rw [hn] at HC
    clear hn ha hx
    go_enter Tryz.func28, Tryz.ntmps28
    go_wp2_with (first
      | (go_at_call 58; refine (unhide HC).mono ?_; rintro r w1 ⟨rfl, hb1⟩)
      | (go_at_call 60; refine (unhide HU _ hb1).mono ?_; rintro r w2 ⟨rfl, hb2⟩))
    go_ret
    exact ⟨rfl, below_step hb1 hb2⟩
  · rw [hn] at HC
    clear hn ha hx
    go_enter Tryz.func28, Tryz.ntmps28
    go_wp2_with (go_at_call 58; refine (unhide HC).mono ?_; rintro r w1 ⟨rfl, hb1⟩)
    go_ret
    exact ⟨rfl, hb1⟩
/-- Texts of the call's own. -/
def OwnS (w : World) (base : Nat) (v : Value) (xs : List ByteArray) : Prop := w.ownsRow base 9 1 v xs.length (xs.map .string)
theorem OwnS.later {w w1 : World} {base : Nat} {v : Value} {xs : List ByteArray} (h : OwnS w base v xs) (hb : Below w.heap.size w w1) : OwnS w1 base v xs := own_later h hb
end Go.Proofs.YtcpndojkfngioaaGreat
set_option linter.unusedSimpArgs false
set_option linter.unusedVariables false
namespace Go.Proofs.YtcpndojkfngioaaGreat
open Go.RowKit Go.Sort

set_option maxHeartbeats 2000000 in
set_option maxRecDepth 100000 in
/-- tallyref.KindsOf (14). -/
theorem kindsOf_any (t : Tb) (m : Tm) (w : World) (hl : t.cols.length ≤ 1048576) (ha : ColsT w m.aC t.cols) :
    Calls Tryz.prog 14 #[t.val m] w (OwnQ (t.cols.map Prod.snd) w) := by
  have hb0 := below_alloc (Below.refl _ w) (t.box m)
  have HA := hide ha
  have HT3 := hide (Tri.new w t m)
  have HB0 := hide hb0
  unfold Tb.box at HT3 HB0
  rw [Tb.val_open]
  obtain ⟨cs, hcs⟩ : ∃ cs, cs = t.cols := ⟨_, rfl⟩
  rw [← hcs] at hl HA ⊢
  obtain ⟨wa, hwa⟩ : ∃ wa, wa = w.alloc (.cells #[.string t.name, .slice m.aC t.cols.length m.cC, .slice m.aR t.rows.length m.cR] 45) := ⟨_, rfl⟩
  rw [← hwa] at HT3 HB0
  rw [← hcs] at hwa
  have HWA := hide hwa
  have c1 := (unhide HT3).c1
  rw [← hcs] at c1
  simp only [Nat.zero_add] at c1
  clear ha hb0 hwa hcs HT3
  go_enter Tryz.func14, Tryz.ntmps14
  go_upto_region 1 with fail
  rw [← unhide HWA]
  clear HWA
  go_wp2_with fail
  go_loopw [3, 9] (fun v i wr => ∃ (k : Nat) (a3 : Option Addr) (c3 : Nat), k ≤ cs.length ∧ i = .int .i64 (k : Int) ∧ v = .slice a3 k c3 ∧ Hid (OwnI wr w.heap.size (.slice a3 k c3) ((cs.take k).map Prod.snd)) ∧ Hid (Below w.heap.size w wr)) (fun _ i _ => cs.length - (intOf i).toNat)
  case atStart => exact ⟨0, none, 0, Nat.zero_le _, rfl, rfl, own_nil _ _, unhide HB0⟩
  case round =>
    clear c1
    obtain ⟨k, a3, c3, hk, rfl, rfl, HO, HBL⟩ := hrel
    have HB := HBL
    by_cases hlt : k < cs.length
    · have h9 : (k : Int) < (cs.length : Int) := by omega
      obtain ⟨x, hx⟩ : ∃ x, cs[k]? = some x := ⟨_, List.getElem?_eq_getElem hlt⟩
      obtain ⟨b, off, ea, d0, d1⟩ := ((unhide HA).later (unhide HBL)).get hx
      rw [ea]
      have HT := hide (take_snocI Prod.snd hx)
      have hlen : ((cs.take k).map Prod.snd).length = k := by simp; omega
      have HLN := hide hlen
      have hb1 := below_alloc (Below.refl _ wr) (.cells #[.string x.1, .int .i64 x.2] 63)
      have hb2 := below_alloc hb1 (.cells #[.int .i64 x.2] 3)
      have HO1 := hide ((unhide HO).later hb2)
      have HS := hide (own_single (wr.alloc (.cells #[.string x.1, .int .i64 x.2] 63)) w.heap.size (by have := (unhide HB).size; simp; omega) x.2)
      have HB2 := hide (below_step (unhide HB) hb2)
      have hsz : (wr.alloc (.cells #[.string x.1, .int .i64 x.2] 63)).heap.size = wr.heap.size + 1 := by simp [go_sem]
      rw [hsz] at HS
      clear hsz
      obtain ⟨x1, x2⟩ := x
      simp only at d0 d1 HT HO1 HS HB2
      generalize (cs.take k).map Prod.snd = zs at *
      clear hx hb1 hb2 hlen
      go_wp2_with (at_builtin; go_loud (refine wpList_push_ints _ rfl (.tmp 13) (.tmp 16) rfl w.heap.size w.heap.size _ _ zs [x2] rfl (unhide HO1) rfl (unhide HS) (by rw [unhide HLN]; simp; omega) (unhide HB2).size ?_); intro v' w' hO' hB')
      obtain ⟨a', c', rfl⟩ := hO'.slice
      have e : (zs ++ [x2]).length = k + 1 := by rw [List.length_append, unhide HLN]; rfl
      rw [e] at hO' ⊢
      rw [← unhide HT] at hO'
      exact ⟨⟨k + 1, a', c', by omega, by go_num, rfl, hO', (unhide HB2).trans hB'⟩, by simp [intOf]; omega⟩
    · have h9 : ¬ (k : Int) < (cs.length : Int) := by omega
      obtain rfl : k = cs.length := by omega
      rw [List.take_length] at HO
      clear hk hlt
      go_wp2
      go_ret
      refine ⟨a3, c3, by rw [List.length_map]; rfl, ?_, unhide HB⟩
      rw [List.length_map]
      exact unhide HO
end Go.Proofs.YtcpndojkfngioaaGreat

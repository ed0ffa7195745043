import Derived.Test.YtcpndojkfngioaaGreatPlD
set_option linter.unusedSimpArgs false
set_option linter.unusedVariables false
namespace Go.Proofs.YtcpndojkfngioaaGreat
open Go.RowKit Go.Sort

/-- A test of values, as a function. -/
def Tst (w : World) (F : Value) (vs : List Value) (ps : List Bool) : Prop := ∃ n k, F = .func (.func n) #[] k ∧ (∀ args w, (callFunc n args).run Tryz.prog w = .ok (.enter n args) w) ∧ ∀ (i : Nat) v bb W, vs[i]? = some v → ps[i]? = some bb → Below w.heap.size w W → Calls Tryz.prog n (#[v] ++ k) W fun r w' => r = .returned (.bool bb) ∧ Below W.heap.size W w'
theorem Tst.later {w w' : World} {F : Value} {vs : List Value} {ps : List Bool} (h : Tst w F vs ps) (hb : Below w.heap.size w w') : Tst w' F vs ps := by
  obtain ⟨n, k, h1, h2, h3⟩ := h
  exact ⟨n, k, h1, h2, fun i v bb W g1 g2 g3 => h3 i v bb W g1 g2 (below_step hb g3)⟩
/-- Where the first true one is; -1, if there is none. -/
def FoundB (ps : List Bool) (r : Int) : Prop := (∃ k : Nat, r = k ∧ ps[k]? = some true ∧ ∀ i : Nat, i < k → ∀ b, ps[i]? = some b → b = false) ∨ (r = -1 ∧ ∀ (i : Nat) b, ps[i]? = some b → b = false)
theorem foundB_any {ps : List Bool} {r : Int} (h : FoundB ps r) : decide (0 ≤ r) = ps.any id := by
  rcases h with ⟨k, rfl, hk, _⟩ | ⟨rfl, h⟩
  · have : ps.any id = true := List.any_eq_true.2 ⟨true, List.mem_of_getElem? hk, rfl⟩
    rw [this]; simp
  · have : ps.any id = false := by
      rw [List.any_eq_false]
      intro x hx
      obtain ⟨i, hi, rfl⟩ := List.getElem_of_mem hx
      have := h i _ (List.getElem?_eq_getElem hi)
      simp [this]
    rw [this]; rfl
theorem no_stepB {ps : List Bool} {k : Nat} (h : ∀ i : Nat, i < k → ∀ b, ps[i]? = some b → b = false) (hk : ps[k]? = some false) : ∀ i : Nat, i < k + 1 → ∀ b, ps[i]? = some b → b = false := by
  intro i hi b hb
  rcases Nat.lt_or_eq_of_le (Nat.le_of_lt_succ hi) with h1 | rfl
  · exact h i h1 b hb
  · rw [hk] at hb; injection hb with hb; exact hb.symm
/-- A list of type 45 in memory. -/
def LstT (w : World) (a : Option Addr) (vs : List Value) : Prop := vs = [] ∨ ∃ b off, a = some ⟨b, off, none⟩ ∧ ∀ (i : Nat) v, vs[i]? = some v → ∀ W, Below w.heap.size w W → (Instr.loadAt 45 (.pointer (some ⟨b, off + i * 3, none⟩))).run Tryz.prog W = .ok v W
theorem LstT.later {w w' : World} {a : Option Addr} {vs : List Value} (h : LstT w a vs) (hb : Below w.heap.size w w') : LstT w' a vs := by
  rcases h with h | ⟨b, off, e, h⟩
  · exact .inl h
  · exact .inr ⟨b, off, e, fun i v hv W hW => h i v hv W (below_step hb hW)⟩
set_option maxHeartbeats 400000 in
set_option maxRecDepth 100000 in
/-- IndexFunc (29). -/
theorem indexT (vs : List Value) (ps : List Bool) (hps : ps.length = vs.length) (a : Option Addr) (c : Nat) (F : Value) (w : World) (hl : vs.length ≤ 140737488355328) (ha : LstT w a vs) (hF : Tst w F vs ps) :
    Calls Tryz.prog 29 #[.slice a vs.length c, F] w fun e w' => ∃ r, e = .returned (.int .i64 r) ∧ FoundB ps r ∧ Below w.heap.size w w' := by
  have HA := hide ha
  have HPS := hide hps
  obtain ⟨nf, kf, rfl, ent, HP⟩ := hF
  have HC := hide HP
  clear ha HP hps
  go_enter Tryz.func29, Tryz.ntmps29
  go_wp2_with fail
  go_loopw [8] (fun i wr => ∃ k : Nat, k ≤ vs.length ∧ i = .int .i64 (k : Int) ∧ Hid (∀ i : Nat, i < k → ∀ b, ps[i]? = some b → b = false) ∧ Hid (Below w.heap.size w wr)) (fun i _ => vs.length - (intOf i).toNat)
  case atStart => exact ⟨0, Nat.zero_le _, rfl, fun i hi => absurd hi (by omega), Below.refl _ _⟩
  case round =>
    obtain ⟨k, hk, rfl, HN, HB⟩ := hrel
    by_cases hlt : k < vs.length
    · have h9 : (k : Int) < (vs.length : Int) := by omega
      obtain ⟨v, hv⟩ : ∃ v, vs[k]? = some v := ⟨_, List.getElem?_eq_getElem hlt⟩
      obtain ⟨bb, hbb⟩ : ∃ bb, ps[k]? = some bb := ⟨_, List.getElem?_eq_getElem (by rw [unhide HPS]; exact hlt)⟩
      rcases unhide HA with e | ⟨vb, vo, rfl, hld⟩
      · subst e; simp at hlt
      have HLD := hide (hld k v hv wr (unhide HB))
      have HX := hide (unhide HC k v bb wr hv hbb (unhide HB))
      clear hld hv HA
      cases bb
      · have HE := hide (no_stepB (unhide HN) hbb)
        clear HN hbb
        go_wp2_with (first
          | (refine wpList_load_w ?_ 45 (.tmp 14) rfl _ (by simp [Act.eval]) _ (unhide HLD) ?_; · simp [Region.wanted, yielded])
          | (refine (unhide HX).mono ?_; rintro r w1 ⟨rfl, hb1⟩))
        exact ⟨⟨k + 1, by omega, by go_num, unhide HE, below_step (unhide HB) hb1⟩, by simp [intOf]; omega⟩
      · have HE : Hid (FoundB ps (k : Int)) := Or.inl ⟨k, rfl, hbb, unhide HN⟩
        clear HN hbb
        go_wp2_with (first
          | (refine wpList_load_w ?_ 45 (.tmp 14) rfl _ (by simp [Act.eval]) _ (unhide HLD) ?_; · simp [Region.wanted, yielded])
          | (refine (unhide HX).mono ?_; rintro r w1 ⟨rfl, hb1⟩))
        go_ret
        exact ⟨_, rfl, unhide HE, below_step (unhide HB) hb1⟩
    · have h9 : ¬ (k : Int) < (vs.length : Int) := by omega
      have HE : Hid (FoundB ps (-1)) := Or.inr ⟨rfl, fun i b hb => unhide HN i (by have := (List.getElem?_eq_some_iff.1 hb).1; rw [unhide HPS] at this; omega) b hb⟩
      clear HN
      go_wp2
      go_ret
      exact ⟨_, rfl, unhide HE, unhide HB⟩
set_option maxRecDepth 100000 in
/-- ContainsFunc (18). -/
theorem containsT (vs : List Value) (ps : List Bool) (hps : ps.length = vs.length) (a : Option Addr) (c : Nat) (F : Value) (w : World) (hl : vs.length ≤ 140737488355328) (ha : LstT w a vs) (hF : Tst w F vs ps) :
    Calls Tryz.prog 18 #[.slice a vs.length c, F] w fun e w' => e = .returned (.bool (ps.any id)) ∧ Below w.heap.size w w' := by
  have HI : Hid (Calls Tryz.prog 29 #[.slice a vs.length c, F] w fun e w' => ∃ r, e = .returned (.int .i64 r) ∧ decide (0 ≤ r) = ps.any id ∧ Below w.heap.size w w') := (indexT vs ps hps a c F w hl ha hF).mono fun e w' ⟨r, h1, h2, h3⟩ => ⟨r, h1, foundB_any h2, h3⟩
  clear ha hF
  generalize ps.any id = r at *
  go_enter Tryz.func18, Tryz.ntmps18
  go_wp2_with (go_at_call 29; refine (unhide HI).mono ?_; rintro e w1 ⟨q, rfl, hq, hb⟩)
  go_ret
  exact ⟨rfl, hb⟩
/-- A list of type 46 in memory. -/
def LstR (w : World) (a : Option Addr) (vs : List Value) : Prop := vs = [] ∨ ∃ b off, a = some ⟨b, off, none⟩ ∧ ∀ (i : Nat) v, vs[i]? = some v → ∀ W, Below w.heap.size w W → (Instr.loadAt 46 (.pointer (some ⟨b, off + i, none⟩))).run Tryz.prog W = .ok v W
theorem LstR.later {w w' : World} {a : Option Addr} {vs : List Value} (h : LstR w a vs) (hb : Below w.heap.size w w') : LstR w' a vs := by
  rcases h with h | ⟨b, off, e, h⟩
  · exact .inl h
  · exact .inr ⟨b, off, e, fun i v hv W hW => h i v hv W (below_step hb hW)⟩
set_option maxHeartbeats 400000 in
set_option maxRecDepth 100000 in
/-- IndexFunc (68). -/
theorem indexR (vs : List Value) (ps : List Bool) (hps : ps.length = vs.length) (a : Option Addr) (c : Nat) (F : Value) (w : World) (hl : vs.length ≤ 140737488355328) (ha : LstR w a vs) (hF : Tst w F vs ps) :
    Calls Tryz.prog 68 #[.slice a vs.length c, F] w fun e w' => ∃ r, e = .returned (.int .i64 r) ∧ FoundB ps r ∧ Below w.heap.size w w' := by
  have HA := hide ha
  have HPS := hide hps
  obtain ⟨nf, kf, rfl, ent, HP⟩ := hF
  have HC := hide HP
  clear ha HP hps
  go_enter Tryz.func68, Tryz.ntmps68
  go_wp2_with fail
  go_loopw [8] (fun i wr => ∃ k : Nat, k ≤ vs.length ∧ i = .int .i64 (k : Int) ∧ Hid (∀ i : Nat, i < k → ∀ b, ps[i]? = some b → b = false) ∧ Hid (Below w.heap.size w wr)) (fun i _ => vs.length - (intOf i).toNat)
  case atStart => exact ⟨0, Nat.zero_le _, rfl, fun i hi => absurd hi (by omega), Below.refl _ _⟩
  case round =>
    obtain ⟨k, hk, rfl, HN, HB⟩ := hrel
    by_cases hlt : k < vs.length
    · have h9 : (k : Int) < (vs.length : Int) := by omega
      obtain ⟨v, hv⟩ : ∃ v, vs[k]? = some v := ⟨_, List.getElem?_eq_getElem hlt⟩
      obtain ⟨bb, hbb⟩ : ∃ bb, ps[k]? = some bb := ⟨_, List.getElem?_eq_getElem (by rw [unhide HPS]; exact hlt)⟩
      rcases unhide HA with e | ⟨vb, vo, rfl, hld⟩
      · subst e; simp at hlt
      have HLD := hide (hld k v hv wr (unhide HB))
      have HX := hide (unhide HC k v bb wr hv hbb (unhide HB))
      clear hld hv HA
      cases bb
      · have HE := hide (no_stepB (unhide HN) hbb)
        clear HN hbb
        go_wp2_with (first
          | (refine wpList_load_w ?_ 46 (.tmp 14) rfl _ (by simp [Act.eval]) _ (unhide HLD) ?_; · simp [Region.wanted, yielded])
          | (refine (unhide HX).mono ?_; rintro r w1 ⟨rfl, hb1⟩))
        exact ⟨⟨k + 1, by omega, by go_num, unhide HE, below_step (unhide HB) hb1⟩, by simp [intOf]; omega⟩
      · have HE : Hid (FoundB ps (k : Int)) := Or.inl ⟨k, rfl, hbb, unhide HN⟩
        clear HN hbb
        go_wp2_with (first
          | (refine wpList_load_w ?_ 46 (.tmp 14) rfl _ (by simp [Act.eval]) _ (unhide HLD) ?_; · simp [Region.wanted, yielded])
          | (refine (unhide HX).mono ?_; rintro r w1 ⟨rfl, hb1⟩))
        go_ret
        exact ⟨_, rfl, unhide HE, below_step (unhide HB) hb1⟩
    · have h9 : ¬ (k : Int) < (vs.length : Int) := by omega
      have HE : Hid (FoundB ps (-1)) := Or.inr ⟨rfl, fun i b hb => unhide HN i (by have := (List.getElem?_eq_some_iff.1 hb).1; rw [unhide HPS] at this; omega) b hb⟩
      clear HN
      go_wp2
      go_ret
      exact ⟨_, rfl, unhide HE, unhide HB⟩
set_option maxRecDepth 100000 in
/-- ContainsFunc (39). -/
theorem containsR (vs : List Value) (ps : List Bool) (hps : ps.length = vs.length) (a : Option Addr) (c : Nat) (F : Value) (w : World) (hl : vs.length ≤ 140737488355328) (ha : LstR w a vs) (hF : Tst w F vs ps) :
    Calls Tryz.prog 39 #[.slice a vs.length c, F] w fun e w' => e = .returned (.bool (ps.any id)) ∧ Below w.heap.size w w' := by
  have HI : Hid (Calls Tryz.prog 68 #[.slice a vs.length c, F] w fun e w' => ∃ r, e = .returned (.int .i64 r) ∧ decide (0 ≤ r) = ps.any id ∧ Below w.heap.size w w') := (indexR vs ps hps a c F w hl ha hF).mono fun e w' ⟨r, h1, h2, h3⟩ => ⟨r, h1, foundB_any h2, h3⟩
  clear ha hF
  generalize ps.any id = r at *
  go_enter Tryz.func39, Tryz.ntmps39
  go_wp2_with (go_at_call 68; refine (unhide HI).mono ?_; rintro e w1 ⟨q, rfl, hq, hb⟩)
  go_ret
  exact ⟨rfl, hb⟩
/-- A list of type 74 in memory. -/
def LstE (w : World) (a : Option Addr) (vs : List Value) : Prop := vs = [] ∨ ∃ b off, a = some ⟨b, off, none⟩ ∧ ∀ (i : Nat) v, vs[i]? = some v → ∀ W, Below w.heap.size w W → (Instr.loadAt 74 (.pointer (some ⟨b, off + i * 6, none⟩))).run Tryz.prog W = .ok v W
theorem LstE.later {w w' : World} {a : Option Addr} {vs : List Value} (h : LstE w a vs) (hb : Below w.heap.size w w') : LstE w' a vs := by
  rcases h with h | ⟨b, off, e, h⟩
  · exact .inl h
  · exact .inr ⟨b, off, e, fun i v hv W hW => h i v hv W (below_step hb hW)⟩
set_option maxHeartbeats 400000 in
set_option maxRecDepth 100000 in
/-- IndexFunc (74). -/
theorem indexE (vs : List Value) (ps : List Bool) (hps : ps.length = vs.length) (a : Option Addr) (c : Nat) (F : Value) (w : World) (hl : vs.length ≤ 140737488355328) (ha : LstE w a vs) (hF : Tst w F vs ps) :
    Calls Tryz.prog 74 #[.slice a vs.length c, F] w fun e w' => ∃ r, e = .returned (.int .i64 r) ∧ FoundB ps r ∧ Below w.heap.size w w' := by
  have HA := hide ha
  have HPS := hide hps
  obtain ⟨nf, kf, rfl, ent, HP⟩ := hF
  have HC := hide HP
  clear ha HP hps
  go_enter Tryz.func74, Tryz.ntmps74
  go_wp2_with fail
  go_loopw [8] (fun i wr => ∃ k : Nat, k ≤ vs.length ∧ i = .int .i64 (k : Int) ∧ Hid (∀ i : Nat, i < k → ∀ b, ps[i]? = some b → b = false) ∧ Hid (Below w.heap.size w wr)) (fun i _ => vs.length - (intOf i).toNat)
  case atStart => exact ⟨0, Nat.zero_le _, rfl, fun i hi => absurd hi (by omega), Below.refl _ _⟩
  case round =>
    obtain ⟨k, hk, rfl, HN, HB⟩ := hrel
    by_cases hlt : k < vs.length
    · have h9 : (k : Int) < (vs.length : Int) := by omega
      obtain ⟨v, hv⟩ : ∃ v, vs[k]? = some v := ⟨_, List.getElem?_eq_getElem hlt⟩
      obtain ⟨bb, hbb⟩ : ∃ bb, ps[k]? = some bb := ⟨_, List.getElem?_eq_getElem (by rw [unhide HPS]; exact hlt)⟩
      rcases unhide HA with e | ⟨vb, vo, rfl, hld⟩
      · subst e; simp at hlt
      have HLD := hide (hld k v hv wr (unhide HB))
      have HX := hide (unhide HC k v bb wr hv hbb (unhide HB))
      clear hld hv HA
      cases bb
      · have HE := hide (no_stepB (unhide HN) hbb)
        clear HN hbb
        go_wp2_with (first
          | (refine wpList_load_w ?_ 74 (.tmp 14) rfl _ (by simp [Act.eval]) _ (unhide HLD) ?_; · simp [Region.wanted, yielded])
          | (refine (unhide HX).mono ?_; rintro r w1 ⟨rfl, hb1⟩))
        exact ⟨⟨k + 1, by omega, by go_num, unhide HE, below_step (unhide HB) hb1⟩, by simp [intOf]; omega⟩
      · have HE : Hid (FoundB ps (k : Int)) := Or.inl ⟨k, rfl, hbb, unhide HN⟩
        clear HN hbb
        go_wp2_with (first
          | (refine wpList_load_w ?_ 74 (.tmp 14) rfl _ (by simp [Act.eval]) _ (unhide HLD) ?_; · simp [Region.wanted, yielded])
          | (refine (unhide HX).mono ?_; rintro r w1 ⟨rfl, hb1⟩))
        go_ret
        exact ⟨_, rfl, unhide HE, below_step (unhide HB) hb1⟩
    · have h9 : ¬ (k : Int) < (vs.length : Int) := by omega
      have HE : Hid (FoundB ps (-1)) := Or.inr ⟨rfl, fun i b hb => unhide HN i (by have := (List.getElem?_eq_some_iff.1 hb).1; rw [unhide HPS] at this; omega) b hb⟩
      clear HN
      go_wp2
      go_ret
      exact ⟨_, rfl, unhide HE, unhide HB⟩
set_option maxRecDepth 100000 in
/-- ContainsFunc (44). -/
theorem containsE (vs : List Value) (ps : List Bool) (hps : ps.length = vs.length) (a : Option Addr) (c : Nat) (F : Value) (w : World) (hl : vs.length ≤ 140737488355328) (ha : LstE w a vs) (hF : Tst w F vs ps) :
    Calls Tryz.prog 44 #[.slice a vs.length c, F] w fun e w' => e = .returned (.bool (ps.any id)) ∧ Below w.heap.size w w' := by
  have HI : Hid (Calls Tryz.prog 74 #[.slice a vs.length c, F] w fun e w' => ∃ r, e = .returned (.int .i64 r) ∧ decide (0 ≤ r) = ps.any id ∧ Below w.heap.size w w') := (indexE vs ps hps a c F w hl ha hF).mono fun e w' ⟨r, h1, h2, h3⟩ => ⟨r, h1, foundB_any h2, h3⟩
  clear ha hF
  generalize ps.any id = r at *
  go_enter Tryz.func44, Tryz.ntmps44
  go_wp2_with (go_at_call 74; refine (unhide HI).mono ?_; rintro e w1 ⟨q, rfl, hq, hb⟩)
  go_ret
  exact ⟨rfl, hb⟩
/-- A list of type 28 in memory. -/
def LstP (w : World) (a : Option Addr) (vs : List Value) : Prop := vs = [] ∨ ∃ b off, a = some ⟨b, off, none⟩ ∧ ∀ (i : Nat) v, vs[i]? = some v → ∀ W, Below w.heap.size w W → (Instr.loadAt 28 (.pointer (some ⟨b, off + i * 11, none⟩))).run Tryz.prog W = .ok v W
theorem LstP.later {w w' : World} {a : Option Addr} {vs : List Value} (h : LstP w a vs) (hb : Below w.heap.size w w') : LstP w' a vs := by
  rcases h with h | ⟨b, off, e, h⟩
  · exact .inl h
  · exact .inr ⟨b, off, e, fun i v hv W hW => h i v hv W (below_step hb hW)⟩
set_option maxHeartbeats 400000 in
set_option maxRecDepth 100000 in
/-- IndexFunc (76). -/
theorem indexP (vs : List Value) (ps : List Bool) (hps : ps.length = vs.length) (a : Option Addr) (c : Nat) (F : Value) (w : World) (hl : vs.length ≤ 140737488355328) (ha : LstP w a vs) (hF : Tst w F vs ps) :
    Calls Tryz.prog 76 #[.slice a vs.length c, F] w fun e w' => ∃ r, e = .returned (.int .i64 r) ∧ FoundB ps r ∧ Below w.heap.size w w' := by
  have HA := hide ha
  have HPS := hide hps
  obtain ⟨nf, kf, rfl, ent, HP⟩ := hF
  have HC := hide HP
  clear ha HP hps
  go_enter Tryz.func76, Tryz.ntmps76
  go_wp2_with fail
  go_loopw [8] (fun i wr => ∃ k : Nat, k ≤ vs.length ∧ i = .int .i64 (k : Int) ∧ Hid (∀ i : Nat, i < k → ∀ b, ps[i]? = some b → b = false) ∧ Hid (Below w.heap.size w wr)) (fun i _ => vs.length - (intOf i).toNat)
  case atStart => exact ⟨0, Nat.zero_le _, rfl, fun i hi => absurd hi (by omega), Below.refl _ _⟩
  case round =>
    obtain ⟨k, hk, rfl, HN, HB⟩ := hrel
    by_cases hlt : k < vs.length
    · have h9 : (k : Int) < (vs.length : Int) := by omega
      obtain ⟨v, hv⟩ : ∃ v, vs[k]? = some v := ⟨_, List.getElem?_eq_getElem hlt⟩
      obtain ⟨bb, hbb⟩ : ∃ bb, ps[k]? = some bb := ⟨_, List.getElem?_eq_getElem (by rw [unhide HPS]; exact hlt)⟩
      rcases unhide HA with e | ⟨vb, vo, rfl, hld⟩
      · subst e; simp at hlt
      have HLD := hide (hld k v hv wr (unhide HB))
      have HX := hide (unhide HC k v bb wr hv hbb (unhide HB))
      clear hld hv HA
      cases bb
      · have HE := hide (no_stepB (unhide HN) hbb)
        clear HN hbb
        go_wp2_with (first
          | (refine wpList_load_w ?_ 28 (.tmp 14) rfl _ (by simp [Act.eval]) _ (unhide HLD) ?_; · simp [Region.wanted, yielded])
          | (refine (unhide HX).mono ?_; rintro r w1 ⟨rfl, hb1⟩))
        exact ⟨⟨k + 1, by omega, by go_num, unhide HE, below_step (unhide HB) hb1⟩, by simp [intOf]; omega⟩
      · have HE : Hid (FoundB ps (k : Int)) := Or.inl ⟨k, rfl, hbb, unhide HN⟩
        clear HN hbb
        go_wp2_with (first
          | (refine wpList_load_w ?_ 28 (.tmp 14) rfl _ (by simp [Act.eval]) _ (unhide HLD) ?_; · simp [Region.wanted, yielded])
          | (refine (unhide HX).mono ?_; rintro r w1 ⟨rfl, hb1⟩))
        go_ret
        exact ⟨_, rfl, unhide HE, below_step (unhide HB) hb1⟩
    · have h9 : ¬ (k : Int) < (vs.length : Int) := by omega
      have HE : Hid (FoundB ps (-1)) := Or.inr ⟨rfl, fun i b hb => unhide HN i (by have := (List.getElem?_eq_some_iff.1 hb).1; rw [unhide HPS] at this; omega) b hb⟩
      clear HN
      go_wp2
      go_ret
      exact ⟨_, rfl, unhide HE, unhide HB⟩
set_option maxRecDepth 100000 in
/-- ContainsFunc (46). -/
theorem containsP (vs : List Value) (ps : List Bool) (hps : ps.length = vs.length) (a : Option Addr) (c : Nat) (F : Value) (w : World) (hl : vs.length ≤ 140737488355328) (ha : LstP w a vs) (hF : Tst w F vs ps) :
    Calls Tryz.prog 46 #[.slice a vs.length c, F] w fun e w' => e = .returned (.bool (ps.any id)) ∧ Below w.heap.size w w' := by
  have HI : Hid (Calls Tryz.prog 76 #[.slice a vs.length c, F] w fun e w' => ∃ r, e = .returned (.int .i64 r) ∧ decide (0 ≤ r) = ps.any id ∧ Below w.heap.size w w') := (indexP vs ps hps a c F w hl ha hF).mono fun e w' ⟨r, h1, h2, h3⟩ => ⟨r, h1, foundB_any h2, h3⟩
  clear ha hF
  generalize ps.any id = r at *
  go_enter Tryz.func46, Tryz.ntmps46
  go_wp2_with (go_at_call 76; refine (unhide HI).mono ?_; rintro e w1 ⟨q, rfl, hq, hb⟩)
  go_ret
  exact ⟨rfl, hb⟩
/-- A list of type 9 in memory. -/
def LstS (w : World) (a : Option Addr) (vs : List Value) : Prop := vs = [] ∨ ∃ b off, a = some ⟨b, off, none⟩ ∧ ∀ (i : Nat) v, vs[i]? = some v → ∀ W, Below w.heap.size w W → (Instr.loadAt 9 (.pointer (some ⟨b, off + i, none⟩))).run Tryz.prog W = .ok v W
theorem LstS.later {w w' : World} {a : Option Addr} {vs : List Value} (h : LstS w a vs) (hb : Below w.heap.size w w') : LstS w' a vs := by
  rcases h with h | ⟨b, off, e, h⟩
  · exact .inl h
  · exact .inr ⟨b, off, e, fun i v hv W hW => h i v hv W (below_step hb hW)⟩
set_option maxHeartbeats 400000 in
set_option maxRecDepth 100000 in
/-- IndexFunc (79). -/
theorem indexS (vs : List Value) (ps : List Bool) (hps : ps.length = vs.length) (a : Option Addr) (c : Nat) (F : Value) (w : World) (hl : vs.length ≤ 140737488355328) (ha : LstS w a vs) (hF : Tst w F vs ps) :
    Calls Tryz.prog 79 #[.slice a vs.length c, F] w fun e w' => ∃ r, e = .returned (.int .i64 r) ∧ FoundB ps r ∧ Below w.heap.size w w' := by
  have HA := hide ha
  have HPS := hide hps
  obtain ⟨nf, kf, rfl, ent, HP⟩ := hF
  have HC := hide HP
  clear ha HP hps
  go_enter Tryz.func79, Tryz.ntmps79
  go_wp2_with fail
  go_loopw [8] (fun i wr => ∃ k : Nat, k ≤ vs.length ∧ i = .int .i64 (k : Int) ∧ Hid (∀ i : Nat, i < k → ∀ b, ps[i]? = some b → b = false) ∧ Hid (Below w.heap.size w wr)) (fun i _ => vs.length - (intOf i).toNat)
  case atStart => exact ⟨0, Nat.zero_le _, rfl, fun i hi => absurd hi (by omega), Below.refl _ _⟩
  case round =>
    obtain ⟨k, hk, rfl, HN, HB⟩ := hrel
    by_cases hlt : k < vs.length
    · have h9 : (k : Int) < (vs.length : Int) := by omega
      obtain ⟨v, hv⟩ : ∃ v, vs[k]? = some v := ⟨_, List.getElem?_eq_getElem hlt⟩
      obtain ⟨bb, hbb⟩ : ∃ bb, ps[k]? = some bb := ⟨_, List.getElem?_eq_getElem (by rw [unhide HPS]; exact hlt)⟩
      rcases unhide HA with e | ⟨vb, vo, rfl, hld⟩
      · subst e; simp at hlt
      have HLD := hide (hld k v hv wr (unhide HB))
      have HX := hide (unhide HC k v bb wr hv hbb (unhide HB))
      clear hld hv HA
      cases bb
      · have HE := hide (no_stepB (unhide HN) hbb)
        clear HN hbb
        go_wp2_with (first
          | (refine wpList_load_w ?_ 9 (.tmp 14) rfl _ (by simp [Act.eval]) _ (unhide HLD) ?_; · simp [Region.wanted, yielded])
          | (refine (unhide HX).mono ?_; rintro r w1 ⟨rfl, hb1⟩))
        exact ⟨⟨k + 1, by omega, by go_num, unhide HE, below_step (unhide HB) hb1⟩, by simp [intOf]; omega⟩
      · have HE : Hid (FoundB ps (k : Int)) := Or.inl ⟨k, rfl, hbb, unhide HN⟩
        clear HN hbb
        go_wp2_with (first
          | (refine wpList_load_w ?_ 9 (.tmp 14) rfl _ (by simp [Act.eval]) _ (unhide HLD) ?_; · simp [Region.wanted, yielded])
          | (refine (unhide HX).mono ?_; rintro r w1 ⟨rfl, hb1⟩))
        go_ret
        exact ⟨_, rfl, unhide HE, below_step (unhide HB) hb1⟩
    · have h9 : ¬ (k : Int) < (vs.length : Int) := by omega
      have HE : Hid (FoundB ps (-1)) := Or.inr ⟨rfl, fun i b hb => unhide HN i (by have := (List.getElem?_eq_some_iff.1 hb).1; rw [unhide HPS] at this; omega) b hb⟩
      clear HN
      go_wp2
      go_ret
      exact ⟨_, rfl, unhide HE, unhide HB⟩
set_option maxRecDepth 100000 in
/-- ContainsFunc (58). -/
theorem containsS (vs : List Value) (ps : List Bool) (hps : ps.length = vs.length) (a : Option Addr) (c : Nat) (F : Value) (w : World) (hl : vs.length ≤ 140737488355328) (ha : LstS w a vs) (hF : Tst w F vs ps) :
    Calls Tryz.prog 58 #[.slice a vs.length c, F] w fun e w' => e = .returned (.bool (ps.any id)) ∧ Below w.heap.size w w' := by
  have HI : Hid (Calls Tryz.prog 79 #[.slice a vs.length c, F] w fun e w' => ∃ r, e = .returned (.int .i64 r) ∧ decide (0 ≤ r) = ps.any id ∧ Below w.heap.size w w') := (indexS vs ps hps a c F w hl ha hF).mono fun e w' ⟨r, h1, h2, h3⟩ => ⟨r, h1, foundB_any h2, h3⟩
  clear ha hF
  generalize ps.any id = r at *
  go_enter Tryz.func58, Tryz.ntmps58
  go_wp2_with (go_at_call 79; refine (unhide HI).mono ?_; rintro e w1 ⟨q, rfl, hq, hb⟩)
  go_ret
  exact ⟨rfl, hb⟩
/-- A list of type 3 in memory. -/
def LstI (w : World) (a : Option Addr) (vs : List Value) : Prop := vs = [] ∨ ∃ b off, a = some ⟨b, off, none⟩ ∧ ∀ (i : Nat) v, vs[i]? = some v → ∀ W, Below w.heap.size w W → (Instr.loadAt 3 (.pointer (some ⟨b, off + i, none⟩))).run Tryz.prog W = .ok v W
theorem LstI.later {w w' : World} {a : Option Addr} {vs : List Value} (h : LstI w a vs) (hb : Below w.heap.size w w') : LstI w' a vs := by
  rcases h with h | ⟨b, off, e, h⟩
  · exact .inl h
  · exact .inr ⟨b, off, e, fun i v hv W hW => h i v hv W (below_step hb hW)⟩
set_option maxHeartbeats 400000 in
set_option maxRecDepth 100000 in
/-- IndexFunc (83). -/
theorem indexI (vs : List Value) (ps : List Bool) (hps : ps.length = vs.length) (a : Option Addr) (c : Nat) (F : Value) (w : World) (hl : vs.length ≤ 140737488355328) (ha : LstI w a vs) (hF : Tst w F vs ps) :
    Calls Tryz.prog 83 #[.slice a vs.length c, F] w fun e w' => ∃ r, e = .returned (.int .i64 r) ∧ FoundB ps r ∧ Below w.heap.size w w' := by
  have HA := hide ha
  have HPS := hide hps
  obtain ⟨nf, kf, rfl, ent, HP⟩ := hF
  have HC := hide HP
  clear ha HP hps
  go_enter Tryz.func83, Tryz.ntmps83
  go_wp2_with fail
  go_loopw [8] (fun i wr => ∃ k : Nat, k ≤ vs.length ∧ i = .int .i64 (k : Int) ∧ Hid (∀ i : Nat, i < k → ∀ b, ps[i]? = some b → b = false) ∧ Hid (Below w.heap.size w wr)) (fun i _ => vs.length - (intOf i).toNat)
  case atStart => exact ⟨0, Nat.zero_le _, rfl, fun i hi => absurd hi (by omega), Below.refl _ _⟩
  case round =>
    obtain ⟨k, hk, rfl, HN, HB⟩ := hrel
    by_cases hlt : k < vs.length
    · have h9 : (k : Int) < (vs.length : Int) := by omega
      obtain ⟨v, hv⟩ : ∃ v, vs[k]? = some v := ⟨_, List.getElem?_eq_getElem hlt⟩
      obtain ⟨bb, hbb⟩ : ∃ bb, ps[k]? = some bb := ⟨_, List.getElem?_eq_getElem (by rw [unhide HPS]; exact hlt)⟩
      rcases unhide HA with e | ⟨vb, vo, rfl, hld⟩
      · subst e; simp at hlt
      have HLD := hide (hld k v hv wr (unhide HB))
      have HX := hide (unhide HC k v bb wr hv hbb (unhide HB))
      clear hld hv HA
      cases bb
      · have HE := hide (no_stepB (unhide HN) hbb)
        clear HN hbb
        go_wp2_with (first
          | (refine wpList_load_w ?_ 3 (.tmp 14) rfl _ (by simp [Act.eval]) _ (unhide HLD) ?_; · simp [Region.wanted, yielded])
          | (refine (unhide HX).mono ?_; rintro r w1 ⟨rfl, hb1⟩))
        exact ⟨⟨k + 1, by omega, by go_num, unhide HE, below_step (unhide HB) hb1⟩, by simp [intOf]; omega⟩
      · have HE : Hid (FoundB ps (k : Int)) := Or.inl ⟨k, rfl, hbb, unhide HN⟩
        clear HN hbb
        go_wp2_with (first
          | (refine wpList_load_w ?_ 3 (.tmp 14) rfl _ (by simp [Act.eval]) _ (unhide HLD) ?_; · simp [Region.wanted, yielded])
          | (refine (unhide HX).mono ?_; rintro r w1 ⟨rfl, hb1⟩))
        go_ret
        exact ⟨_, rfl, unhide HE, below_step (unhide HB) hb1⟩
    · have h9 : ¬ (k : Int) < (vs.length : Int) := by omega
      have HE : Hid (FoundB ps (-1)) := Or.inr ⟨rfl, fun i b hb => unhide HN i (by have := (List.getElem?_eq_some_iff.1 hb).1; rw [unhide HPS] at this; omega) b hb⟩
      clear HN
      go_wp2
      go_ret
      exact ⟨_, rfl, unhide HE, unhide HB⟩
set_option maxRecDepth 100000 in
/-- ContainsFunc (62). -/
theorem containsI (vs : List Value) (ps : List Bool) (hps : ps.length = vs.length) (a : Option Addr) (c : Nat) (F : Value) (w : World) (hl : vs.length ≤ 140737488355328) (ha : LstI w a vs) (hF : Tst w F vs ps) :
    Calls Tryz.prog 62 #[.slice a vs.length c, F] w fun e w' => e = .returned (.bool (ps.any id)) ∧ Below w.heap.size w w' := by
  have HI : Hid (Calls Tryz.prog 83 #[.slice a vs.length c, F] w fun e w' => ∃ r, e = .returned (.int .i64 r) ∧ decide (0 ≤ r) = ps.any id ∧ Below w.heap.size w w') := (indexI vs ps hps a c F w hl ha hF).mono fun e w' ⟨r, h1, h2, h3⟩ => ⟨r, h1, foundB_any h2, h3⟩
  clear ha hF
  generalize ps.any id = r at *
  go_enter Tryz.func62, Tryz.ntmps62
  go_wp2_with (go_at_call 83; refine (unhide HI).mono ?_; rintro e w1 ⟨q, rfl, hq, hb⟩)
  go_ret
  exact ⟨rfl, hb⟩
/-- A list of type 100 in memory. -/
def LstA (w : World) (a : Option Addr) (vs : List Value) : Prop := vs = [] ∨ ∃ b off, a = some ⟨b, off, none⟩ ∧ ∀ (i : Nat) v, vs[i]? = some v → ∀ W, Below w.heap.size w W → (Instr.loadAt 100 (.pointer (some ⟨b, off + i * 2, none⟩))).run Tryz.prog W = .ok v W
theorem LstA.later {w w' : World} {a : Option Addr} {vs : List Value} (h : LstA w a vs) (hb : Below w.heap.size w w') : LstA w' a vs := by
  rcases h with h | ⟨b, off, e, h⟩
  · exact .inl h
  · exact .inr ⟨b, off, e, fun i v hv W hW => h i v hv W (below_step hb hW)⟩
set_option maxHeartbeats 400000 in
set_option maxRecDepth 100000 in
/-- IndexFunc (117). -/
theorem indexA (vs : List Value) (ps : List Bool) (hps : ps.length = vs.length) (a : Option Addr) (c : Nat) (F : Value) (w : World) (hl : vs.length ≤ 140737488355328) (ha : LstA w a vs) (hF : Tst w F vs ps) :
    Calls Tryz.prog 117 #[.slice a vs.length c, F] w fun e w' => ∃ r, e = .returned (.int .i64 r) ∧ FoundB ps r ∧ Below w.heap.size w w' := by
  have HA := hide ha
  have HPS := hide hps
  obtain ⟨nf, kf, rfl, ent, HP⟩ := hF
  have HC := hide HP
  clear ha HP hps
  go_enter Tryz.func117, Tryz.ntmps117
  go_wp2_with fail
  go_loopw [8] (fun i wr => ∃ k : Nat, k ≤ vs.length ∧ i = .int .i64 (k : Int) ∧ Hid (∀ i : Nat, i < k → ∀ b, ps[i]? = some b → b = false) ∧ Hid (Below w.heap.size w wr)) (fun i _ => vs.length - (intOf i).toNat)
  case atStart => exact ⟨0, Nat.zero_le _, rfl, fun i hi => absurd hi (by omega), Below.refl _ _⟩
  case round =>
    obtain ⟨k, hk, rfl, HN, HB⟩ := hrel
    by_cases hlt : k < vs.length
    · have h9 : (k : Int) < (vs.length : Int) := by omega
      obtain ⟨v, hv⟩ : ∃ v, vs[k]? = some v := ⟨_, List.getElem?_eq_getElem hlt⟩
      obtain ⟨bb, hbb⟩ : ∃ bb, ps[k]? = some bb := ⟨_, List.getElem?_eq_getElem (by rw [unhide HPS]; exact hlt)⟩
      rcases unhide HA with e | ⟨vb, vo, rfl, hld⟩
      · subst e; simp at hlt
      have HLD := hide (hld k v hv wr (unhide HB))
      have HX := hide (unhide HC k v bb wr hv hbb (unhide HB))
      clear hld hv HA
      cases bb
      · have HE := hide (no_stepB (unhide HN) hbb)
        clear HN hbb
        go_wp2_with (first
          | (refine wpList_load_w ?_ 100 (.tmp 14) rfl _ (by simp [Act.eval]) _ (unhide HLD) ?_; · simp [Region.wanted, yielded])
          | (refine (unhide HX).mono ?_; rintro r w1 ⟨rfl, hb1⟩))
        exact ⟨⟨k + 1, by omega, by go_num, unhide HE, below_step (unhide HB) hb1⟩, by simp [intOf]; omega⟩
      · have HE : Hid (FoundB ps (k : Int)) := Or.inl ⟨k, rfl, hbb, unhide HN⟩
        clear HN hbb
        go_wp2_with (first
          | (refine wpList_load_w ?_ 100 (.tmp 14) rfl _ (by simp [Act.eval]) _ (unhide HLD) ?_; · simp [Region.wanted, yielded])
          | (refine (unhide HX).mono ?_; rintro r w1 ⟨rfl, hb1⟩))
        go_ret
        exact ⟨_, rfl, unhide HE, below_step (unhide HB) hb1⟩
    · have h9 : ¬ (k : Int) < (vs.length : Int) := by omega
      have HE : Hid (FoundB ps (-1)) := Or.inr ⟨rfl, fun i b hb => unhide HN i (by have := (List.getElem?_eq_some_iff.1 hb).1; rw [unhide HPS] at this; omega) b hb⟩
      clear HN
      go_wp2
      go_ret
      exact ⟨_, rfl, unhide HE, unhide HB⟩
set_option maxRecDepth 100000 in
/-- ContainsFunc (91). -/
theorem containsA (vs : List Value) (ps : List Bool) (hps : ps.length = vs.length) (a : Option Addr) (c : Nat) (F : Value) (w : World) (hl : vs.length ≤ 140737488355328) (ha : LstA w a vs) (hF : Tst w F vs ps) :
    Calls Tryz.prog 91 #[.slice a vs.length c, F] w fun e w' => e = .returned (.bool (ps.any id)) ∧ Below w.heap.size w w' := by
  have HI : Hid (Calls Tryz.prog 117 #[.slice a vs.length c, F] w fun e w' => ∃ r, e = .returned (.int .i64 r) ∧ decide (0 ≤ r) = ps.any id ∧ Below w.heap.size w w') := (indexA vs ps hps a c F w hl ha hF).mono fun e w' ⟨r, h1, h2, h3⟩ => ⟨r, h1, foundB_any h2, h3⟩
  clear ha hF
  generalize ps.any id = r at *
  go_enter Tryz.func91, Tryz.ntmps91
  go_wp2_with (go_at_call 117; refine (unhide HI).mono ?_; rintro e w1 ⟨q, rfl, hq, hb⟩)
  go_ret
  exact ⟨rfl, hb⟩
/-- A list of type 51 in memory. -/
def LstN (w : World) (a : Option Addr) (vs : List Value) : Prop := vs = [] ∨ ∃ b off, a = some ⟨b, off, none⟩ ∧ ∀ (i : Nat) v, vs[i]? = some v → ∀ W, Below w.heap.size w W → (Instr.loadAt 51 (.pointer (some ⟨b, off + i * 16, none⟩))).run Tryz.prog W = .ok v W
theorem LstN.later {w w' : World} {a : Option Addr} {vs : List Value} (h : LstN w a vs) (hb : Below w.heap.size w w') : LstN w' a vs := by
  rcases h with h | ⟨b, off, e, h⟩
  · exact .inl h
  · exact .inr ⟨b, off, e, fun i v hv W hW => h i v hv W (below_step hb hW)⟩
set_option maxHeartbeats 400000 in
set_option maxRecDepth 100000 in
/-- IndexFunc (118). -/
theorem indexN (vs : List Value) (ps : List Bool) (hps : ps.length = vs.length) (a : Option Addr) (c : Nat) (F : Value) (w : World) (hl : vs.length ≤ 140737488355328) (ha : LstN w a vs) (hF : Tst w F vs ps) :
    Calls Tryz.prog 118 #[.slice a vs.length c, F] w fun e w' => ∃ r, e = .returned (.int .i64 r) ∧ FoundB ps r ∧ Below w.heap.size w w' := by
  have HA := hide ha
  have HPS := hide hps
  obtain ⟨nf, kf, rfl, ent, HP⟩ := hF
  have HC := hide HP
  clear ha HP hps
  go_enter Tryz.func118, Tryz.ntmps118
  go_wp2_with fail
  go_loopw [8] (fun i wr => ∃ k : Nat, k ≤ vs.length ∧ i = .int .i64 (k : Int) ∧ Hid (∀ i : Nat, i < k → ∀ b, ps[i]? = some b → b = false) ∧ Hid (Below w.heap.size w wr)) (fun i _ => vs.length - (intOf i).toNat)
  case atStart => exact ⟨0, Nat.zero_le _, rfl, fun i hi => absurd hi (by omega), Below.refl _ _⟩
  case round =>
    obtain ⟨k, hk, rfl, HN, HB⟩ := hrel
    by_cases hlt : k < vs.length
    · have h9 : (k : Int) < (vs.length : Int) := by omega
      obtain ⟨v, hv⟩ : ∃ v, vs[k]? = some v := ⟨_, List.getElem?_eq_getElem hlt⟩
      obtain ⟨bb, hbb⟩ : ∃ bb, ps[k]? = some bb := ⟨_, List.getElem?_eq_getElem (by rw [unhide HPS]; exact hlt)⟩
      rcases unhide HA with e | ⟨vb, vo, rfl, hld⟩
      · subst e; simp at hlt
      have HLD := hide (hld k v hv wr (unhide HB))
      have HX := hide (unhide HC k v bb wr hv hbb (unhide HB))
      clear hld hv HA
      cases bb
      · have HE := hide (no_stepB (unhide HN) hbb)
        clear HN hbb
        go_wp2_with (first
          | (refine wpList_load_w ?_ 51 (.tmp 14) rfl _ (by simp [Act.eval]) _ (unhide HLD) ?_; · simp [Region.wanted, yielded])
          | (refine (unhide HX).mono ?_; rintro r w1 ⟨rfl, hb1⟩))
        exact ⟨⟨k + 1, by omega, by go_num, unhide HE, below_step (unhide HB) hb1⟩, by simp [intOf]; omega⟩
      · have HE : Hid (FoundB ps (k : Int)) := Or.inl ⟨k, rfl, hbb, unhide HN⟩
        clear HN hbb
        go_wp2_with (first
          | (refine wpList_load_w ?_ 51 (.tmp 14) rfl _ (by simp [Act.eval]) _ (unhide HLD) ?_; · simp [Region.wanted, yielded])
          | (refine (unhide HX).mono ?_; rintro r w1 ⟨rfl, hb1⟩))
        go_ret
        exact ⟨_, rfl, unhide HE, below_step (unhide HB) hb1⟩
    · have h9 : ¬ (k : Int) < (vs.length : Int) := by omega
      have HE : Hid (FoundB ps (-1)) := Or.inr ⟨rfl, fun i b hb => unhide HN i (by have := (List.getElem?_eq_some_iff.1 hb).1; rw [unhide HPS] at this; omega) b hb⟩
      clear HN
      go_wp2
      go_ret
      exact ⟨_, rfl, unhide HE, unhide HB⟩
set_option maxRecDepth 100000 in
/-- ContainsFunc (93). -/
theorem containsN (vs : List Value) (ps : List Bool) (hps : ps.length = vs.length) (a : Option Addr) (c : Nat) (F : Value) (w : World) (hl : vs.length ≤ 140737488355328) (ha : LstN w a vs) (hF : Tst w F vs ps) :
    Calls Tryz.prog 93 #[.slice a vs.length c, F] w fun e w' => e = .returned (.bool (ps.any id)) ∧ Below w.heap.size w w' := by
  have HI : Hid (Calls Tryz.prog 118 #[.slice a vs.length c, F] w fun e w' => ∃ r, e = .returned (.int .i64 r) ∧ decide (0 ≤ r) = ps.any id ∧ Below w.heap.size w w') := (indexN vs ps hps a c F w hl ha hF).mono fun e w' ⟨r, h1, h2, h3⟩ => ⟨r, h1, foundB_any h2, h3⟩
  clear ha hF
  generalize ps.any id = r at *
  go_enter Tryz.func93, Tryz.ntmps93
  go_wp2_with (go_at_call 118; refine (unhide HI).mono ?_; rintro e w1 ⟨q, rfl, hq, hb⟩)
  go_ret
  exact ⟨rfl, hb⟩
end Go.Proofs.YtcpndojkfngioaaGreat

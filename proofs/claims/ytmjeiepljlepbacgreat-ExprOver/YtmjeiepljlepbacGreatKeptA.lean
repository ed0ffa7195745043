import Derived.Test.YtmjeiepljlepbacGreatExA
import Derived.Deep.OwnRows
import Derived.Test.YtmjeiepljlepbacGreatLongF
import Derived.Laws.AppendOwnNone
set_option linter.unusedSimpArgs false
set_option linter.unusedVariables false
namespace Go.Proofs.YtmjeiepljlepbacGreat
open Go.RowKit Go.Sort

/-! What a function value needs: the blocks from lo on, but those of N. -/
structure Kept (lo : Nat) (N : List Nat) (w w' : World) : Prop where
  size : w.heap.size ≤ w'.heap.size
  block : ∀ b, lo ≤ b → b < w.heap.size → b ∉ N → w'.heap[b]? = w.heap[b]?
theorem Kept.refl (lo : Nat) (N : List Nat) (w : World) : Kept lo N w w := ⟨Nat.le_refl _, fun _ _ _ _ => rfl⟩
theorem Kept.trans {lo : Nat} {N : List Nat} {w w' w'' : World} (h : Kept lo N w w') (h' : Kept lo N w' w'') : Kept lo N w w'' :=
  ⟨Nat.le_trans h.size h'.size, fun b h1 h2 h3 => (h'.block b h1 (Nat.lt_of_lt_of_le h2 h.size) h3).trans (h.block b h1 h2 h3)⟩
theorem Kept.of_below {w w' : World} (lo : Nat) (N : List Nat) (h : Below w.heap.size w w') : Kept lo N w w' := ⟨h.size, fun b _ h2 _ => h.block b h2⟩
theorem Kept.of_store (w : World) (lo : Nat) {N : List Nat} {B : Nat} (o : Nat) (v : Value) (h : B ∈ N) : Kept lo N w (w.setCell ⟨B, o, none⟩ v) :=
  ⟨by simp [World.setCell], fun b _ _ h3 => Below.heap_setCell _ _ _ _ (fun e => h3 (by rw [e]; exact h))⟩
theorem Kept.more {lo lo' : Nat} {N N' : List Nat} {w w' : World} (h : Kept lo' N' w w') (hl : lo' ≤ lo) (hN : ∀ b ∈ N', b ∈ N ∨ b < lo ∨ w.heap.size ≤ b) : Kept lo N w w' :=
  ⟨h.size, fun b h1 h2 h3 => h.block b (Nat.le_trans hl h1) h2 fun hb => by
    rcases hN b hb with h | h | h
    · exact h3 h
    · omega
    · omega⟩
theorem Kept.cell {lo : Nat} {N : List Nat} {w w' : World} {b o : Nat} {v : Value} (h : w.cell? ⟨b, o, none⟩ = some v) (hk : Kept lo N w w') (h1 : lo ≤ b) (h3 : b ∉ N) : w'.cell? ⟨b, o, none⟩ = some v := by
  have hl := World.block_lt_of_cell? _ _ h
  rw [← h]
  unfold World.cell?
  rw [hk.block b h1 hl h3]
end Go.Proofs.YtmjeiepljlepbacGreat
set_option linter.unusedSimpArgs false
set_option linter.unusedVariables false
namespace Go.Proofs.YtmjeiepljlepbacGreat
open Go.RowKit Go.Sort

theorem own_later {w w1 : World} {base e size : Nat} {v : Value} {m : Nat} {xs : List Value} (h : w.ownsRow base e size v m xs) (hb : Below w.heap.size w w1) : w1.ownsRow base e size v m xs :=
  h.kept (row := none) ⟨hb.os, hb.tape, hb.output, hb.size, fun k hk _ => hb.block k hk⟩ (by cases v.ownBlock with | none => exact .inl rfl | some g => exact .inr (by simp))
theorem grown_below {w w' : World} {row : Option Nat} (hg : w.grownBy w' row) {B : Nat} (hB : B ≤ w.heap.size) (hr : ∀ g, row = some g → B ≤ g) : Below B w w' :=
  ⟨hg.os, hg.tape, hg.output, hg.size, fun k hk => hg.block k (by omega) (fun e => by have := hr k e.symm; omega)⟩
end Go.Proofs.YtmjeiepljlepbacGreat
set_option linter.unusedSimpArgs false
set_option linter.unusedVariables false
set_option maxRecDepth 100000
namespace Go.Proofs.YtmjeiepljlepbacGreat
open Go.RowKit Go.Sort

theorem rowIs_later {w w' : World} {g t n : Nat} {F : Nat → Value} (h : w.rowIs g t n F) (hb : Below w.heap.size w w') : w'.rowIs g t n F := h.of_block (hb.block _ h.lt)
theorem below_oneL {w w' : World} {o : Obj} (h : Below (w.alloc o).heap.size (w.alloc o) w') : Below w.heap.size w w' := below_step (below_alloc (Below.refl _ _) o) h


theorem rowIs_grown {w w' : World} {g t n : Nat} {F : Nat → Value} {row : Option Nat} (h : w.rowIs g t n F) (hg : w.grownBy w' row) (hne : some g ≠ row) : w'.rowIs g t n F := h.of_block (hg.block _ h.lt hne)
theorem own_block {w : World} {base e size : Nat} {v : Value} {m : Nat} {xs : List Value} (h : w.ownsRow base e size v m xs) {g : Nat} (hg : v.ownBlock = some g) : ∃ cur, w.heap[g]? = some (.cells cur e (0, 0)) := by
  rcases h.2 with ⟨rfl, _⟩ | ⟨g', cap, cur, rfl, _, hh, _⟩
  · simp [Value.ownBlock] at hg
  · simp [Value.ownBlock] at hg; subst hg; exact ⟨cur, hh⟩
theorem own_ne {w : World} {g t n : Nat} {F : Nat → Value} {base e size : Nat} {v : Value} {m : Nat} {xs : List Value} (h : w.rowIs g t n F) (ho : w.ownsRow base e size v m xs) (hte : t ≠ e) : some g ≠ v.ownBlock := by
  intro hg
  obtain ⟨cur, hc⟩ := own_block ho hg.symm
  obtain ⟨c, hb, _⟩ := h
  rw [hc] at hb
  simp at hb
  exact hte hb.2.symm
theorem own_own {w : World} {base e size base' e' size' : Nat} {v v' : Value} {m m' : Nat} {xs xs' : List Value} (h : w.ownsRow base e size v m xs) (h' : w.ownsRow base' e' size' v' m' xs') (hne : e ≠ e') : v.ownBlock = none ∨ v.ownBlock ≠ v'.ownBlock := by
  cases hv : v.ownBlock with
  | none => exact .inl rfl
  | some g =>
    right
    intro hg
    obtain ⟨c, hc⟩ := own_block h hv
    obtain ⟨c', hc'⟩ := own_block h' hg.symm
    rw [hc] at hc'
    simp at hc'
    exact hne hc'.2
theorem grown_set (w : World) (g j : Nat) (u : Value) : w.grownBy (w.setCell ⟨g, j, none⟩ u) (some g) := by
  have := (Below.refl g w).setCell (p := ⟨g, j, none⟩) (Nat.le_refl _) u
  exact ⟨this.os, this.tape, this.output, this.size, fun k _ hne => Below.heap_setCell w _ u k (fun e => hne (by rw [e]))⟩
theorem own_set {w : World} {g t n j : Nat} {F : Nat → Value} {u : Value} {base e size : Nat} {v : Value} {m : Nat} {xs : List Value} (ho : w.ownsRow base e size v m xs) (h : w.rowIs g t n F) (hte : t ≠ e) : (w.setCell ⟨g, j, none⟩ u).ownsRow base e size v m xs :=
  ho.kept (grown_set w g j u) (by have := own_ne h ho hte; cases hv : v.ownBlock with | none => exact .inl rfl | some k => exact .inr (by rw [hv] at this; exact fun e => this e.symm))
theorem own_laterL {w w1 : World} {base e size : Nat} {v : Value} {m : Nat} {xs : List Value} (h : w.ownsRow base e size v m xs) (hb : Below w.heap.size w w1) : w1.ownsRow base e size v m xs :=
  h.kept (row := none) ⟨hb.os, hb.tape, hb.output, hb.size, fun k hk _ => hb.block k hk⟩ (by cases v.ownBlock with | none => exact .inl rfl | some g => exact .inr (by simp))
theorem grown_belowL {w w' : World} {row : Option Nat} (hg : w.grownBy w' row) {B : Nat} (hB : B ≤ w.heap.size) (hr : ∀ g, row = some g → B ≤ g) : Below B w w' :=
  ⟨hg.os, hg.tape, hg.output, hg.size, fun k hk => hg.block k (by omega) (fun e => by have := hr k e.symm; omega)⟩

theorem own_shape {w : World} {base e size : Nat} {v : Value} {m : Nat} {xs : List Value} (h : w.ownsRow base e size v m xs) : ∃ a c, v = .slice a m c := by
  rcases h.2 with ⟨rfl, rfl⟩ | ⟨g, cap, cur, rfl, _⟩
  · exact ⟨none, 0, rfl⟩
  · exact ⟨_, _, rfl⟩
def box2 (a b : Value) : Nat → Value
  | 0 => a
  | _ => b
theorem box2_alloc (w : World) (a b : Value) : (w.alloc (.cells #[a, b] 159)).rowIs w.heap.size 159 2 (box2 a b) := World.rowIs_alloc w _ 159 _ (fun i hi => by
  match i, hi with
  | 0, _ => rfl
  | 1, _ => rfl)
theorem box2_facts {w : World} {g : Nat} {a b : Value} (h : w.rowIs g 159 2 (box2 a b)) : w.cell? ⟨g, 0, none⟩ = some a ∧ w.cell? ⟨g, 1, none⟩ = some b ∧ w.frozen? ⟨g, 0, none⟩ = false ∧ w.frozen? ⟨g, 1, none⟩ = false :=
  ⟨h.cell (by omega), h.cell (by omega), h.frozen _, h.frozen _⟩
theorem box2_set1 {w : World} {g : Nat} {a b u : Value} (h : w.rowIs g 159 2 (box2 a b)) : (w.setCell ⟨g, 1, none⟩ u).rowIs g 159 2 (box2 a u) := (h.set 1 u).congr fun i hi => by
  match i, hi with
  | 0, _ => rfl
  | 1, _ => rfl
theorem dig_own {w : World} {base : Nat} {v : Value} {zs : List Int} (h : OwnD w base v zs) : ∃ a c, v = .slice a zs.length c ∧ zs.length ≤ c ∧ DigAt w a zs := ownD_dig h

theorem minus_step (zs : List Int) (k : Nat) (hk : zs.length = k) (S C x y D E : Int) (hS : S = x + 65536 - y - C) (h : valD zs - 65536 ^ k * C = D - E) :
    valD (zs ++ [S % 65536]) - 65536 ^ (k + 1) * (1 - S / 65536) = (D + 65536 ^ k * x) - (E + 65536 ^ k * y) := by
  rw [valD_snoc, hk, Int.pow_succ]
  have e1 : S % 65536 = S - 65536 * (S / 65536) := by omega
  generalize hq : (65536 : Int) ^ k = q at *
  generalize S / 65536 = d at *
  rw [e1, hS]
  have e2 : q * (x + 65536 - y - C - 65536 * d) = q * x + q * 65536 - q * y - q * C - q * 65536 * d := by
    rw [Int.mul_sub, Int.mul_sub, Int.mul_sub, Int.mul_add, ← Int.mul_assoc]
  have e3 : q * 65536 * (1 - d) = q * 65536 - q * 65536 * d := by rw [Int.mul_sub, Int.mul_one]
  rw [e2, e3]
  generalize q * 65536 * d = t at *
  omega
/-- What is borrowed at the end. -/
theorem minus_end (zs ds es : List Int) (C : Int) (hz : Digs zs) (hk : zs.length = ds.length) (hle : es.length ≤ ds.length) (hC0 : 0 ≤ C) (hC1 : C ≤ 1) (hv : valD es ≤ valD ds) (h : valD zs - 65536 ^ ds.length * C = valD (ds.take ds.length) - valD (es.take ds.length)) : valD zs = valD ds - valD es := by
  rw [List.take_length, List.take_of_length_le hle] at h
  have h1 := valD_lt hz
  rw [hk] at h1
  have h2 := pow_pos' ds.length
  rcases (show C = 0 ∨ C = 1 by omega) with rfl | rfl
  · rw [Int.mul_zero] at h; omega
  · rw [Int.mul_one] at h; omega

/-- The boxes of 'plus' with two signs. -/
structure PB (w wx : World) (ob : Nat) (m n o : Bool) (x y v : Value) : Prop where
  below : Below w.heap.size w wx
  ba : wx.rowIs w.heap.size 159 2 (box2 (.bool m) x)
  bb : wx.rowIs (w.heap.size + 1) 159 2 (box2 (.bool n) y)
  bz : wx.rowIs (w.heap.size + 1 + 1) 159 2 (box2 (.bool false) (.slice none 0 0))
  bo : wx.rowIs ob 159 2 (box2 (.bool o) v)
  ho : w.heap.size + 1 + 1 < ob
theorem PB.later {w wx wy : World} {ob : Nat} {m n o : Bool} {x y v : Value} (h : PB w wx ob m n o x y v) (hb : Below wx.heap.size wx wy) : PB w wy ob m n o x y v :=
  ⟨below_step h.below hb, rowIs_later h.ba hb, rowIs_later h.bb hb, rowIs_later h.bz hb, rowIs_later h.bo hb, h.ho⟩
/-- An append to the own list, and its store into the box. -/
theorem PB.app {w wx w1 : World} {ob : Nat} {m n o : Bool} {x y v v' : Value} {zs ys : List Int} {ob' : Obj} {bs : Nat} (h : PB w wx ob m n o x y v) (ho : OwnD wx bs v zs) (hbs : w.heap.size ≤ bs) (ho1 : OwnD w1 bs v' ys) (hg : (wx.alloc ob').grownBy w1 v.ownBlock) :
    PB w (w1.setCell ⟨ob, 1, none⟩ v') ob m n o x y v' ∧ OwnD (w1.setCell ⟨ob, 1, none⟩ v') bs v' ys := by
  have oa := World.ownsRow.alloc ho ob'
  have key : ∀ {g nn : Nat} {F : Nat → Value}, wx.rowIs g 159 nn F → w1.rowIs g 159 nn F := fun hr => rowIs_grown (hr.alloc ob') hg (own_ne (hr.alloc ob') oa (by decide))
  have hob := h.ho
  refine ⟨⟨?_, (key h.ba).setOther (by simp; omega) _, (key h.bb).setOther (by simp; omega) _, (key h.bz).setOther (by simp; omega) _, box2_set1 (key h.bo), h.ho⟩, own_set ho1 (key h.bo) (by decide)⟩
  exact ((below_alloc h.below ob').trans (grown_belowL hg (below_alloc h.below ob').size fun g e => Nat.le_trans hbs (World.ownsRow.lt oa g e).1)).setCell (by simp; omega) _
end Go.Proofs.YtmjeiepljlepbacGreat
set_option linter.unusedSimpArgs false
set_option linter.unusedVariables false
set_option maxRecDepth 100000
namespace Go.Proofs.YtmjeiepljlepbacGreat
open Go.RowKit Go.Sort

theorem three_boxes {w w' : World} {m n : Bool} {x y : Value} (h : Below (((w.alloc (.cells #[.bool m, x] 159)).alloc (.cells #[.bool n, y] 159)).alloc (.cells #[.bool false, .slice none 0 0] 159)).heap.size (((w.alloc (.cells #[.bool m, x] 159)).alloc (.cells #[.bool n, y] 159)).alloc (.cells #[.bool false, .slice none 0 0] 159)) w') :
    Below w.heap.size w w' ∧ w'.rowIs w.heap.size 159 2 (box2 (.bool m) x) ∧ w'.rowIs (w.heap.size + 1) 159 2 (box2 (.bool n) y) ∧ w'.rowIs (w.heap.size + 1 + 1) 159 2 (box2 (.bool false) (.slice none 0 0)) := by
  refine ⟨below_step (below_alloc (below_alloc (below_alloc (Below.refl _ _) _) _) _) h, rowIs_later (((box2_alloc w _ _).alloc _).alloc _) h, ?_, ?_⟩
  · have := rowIs_later ((box2_alloc (w.alloc (.cells #[.bool m, x] 159)) (.bool n) y).alloc (.cells #[.bool false, .slice none 0 0] 159)) h
    simpa using this
  · have := rowIs_later (box2_alloc ((w.alloc (.cells #[.bool m, x] 159)).alloc (.cells #[.bool n, y] 159)) (.bool false) (.slice none 0 0)) h
    simpa using this

set_option maxHeartbeats 4000000 in
theorem plus_ge (a b : Option Addr) (ca cb : Nat) (ds es : List Int) (m n : Bool) (w : World) (hmn : (m == n) = false) (hl : ds.length ≤ 1000000) (hle : es.length ≤ ds.length) (hd : Digs ds) (he : Digs es) (hs0 : 0 ≤ sizeV ds es) (hv : valD es ≤ valD ds) (ha : DigAt w a ds) (hb : DigAt w b es) :
    Calls Tryz.prog 154 #[.agg #[.bool m, .slice a ds.length ca], .agg #[.bool n, .slice b es.length cb]] w fun e w' =>
      ∃ a' c' zs, e = .returned (.agg #[.bool (m && decide (0 < zs.length)), .slice a' zs.length c']) ∧ zs.length ≤ c' ∧ (a' = none → c' = 0) ∧ DigAt w' a' zs ∧ Digs zs ∧ trimN zs zs.length = zs.length ∧ valD zs = valD ds - valD es ∧ Below w.heap.size w w' := by
  obtain ⟨i0, hi, hz0, hz1, hz2⟩ := info_parts Tryz.info175
  have HS := hide (fun (w' : World) (h : Below w.heap.size w w') => size_anyL a b ca cb ds es m n w' (by omega) (by omega) (ha.later h) (hb.later h))
  generalize sizeV ds es = sz at HS hs0
  have HA := hide ha
  have HB := hide hb
  have HD := hide hd
  have HE := hide he
  have HV := hide hv
  have HLE := hide hle
  have hl2 : es.length ≤ 1000000 := by omega
  clear ha hb hd he hv hle
  go_enter Tryz.func154, Tryz.ntmps154
  go_wp2_with (first
    | (go_at_call 205; refine (unhide HS _ (below_alloc (below_alloc (below_alloc (Below.refl _ _) _) _) _)).mono ?_; rintro e w1 ⟨rfl, hb1⟩; obtain ⟨hB1, r1, s1, z1⟩ := three_boxes hb1; obtain ⟨t0, t1, t2, t3⟩ := box2_facts r1; have hzz : w.heap.size + 1 + 1 < w1.heap.size := z1.lt; have hzy : w.heap.size < w1.heap.size := r1.lt; clear hb1)
    | fail)
  have HPB : Hid (PB w (w1.alloc (.cells #[.bool m, .slice none 0 0] 159)) w1.heap.size m n m (.slice a ds.length ca) (.slice b es.length cb) (.slice none 0 0)) := ⟨below_alloc hB1 _, r1.alloc _, s1.alloc _, z1.alloc _, box2_alloc _ _ _, hzz⟩
  clear r1 s1 z1 hB1 t0 t1 t2 t3
  go_loopw [9, 71] (fun c i wx => ∃ (k : Nat) (C : Int) (zs : List Int) (v : Value), c = .int .u32 C ∧ i = .int .i64 k ∧ zs.length = k ∧ k ≤ ds.length ∧ 0 ≤ C ∧ C ≤ 1 ∧ Digs zs ∧ Hid (valD zs - 65536 ^ k * C = valD (ds.take k) - valD (es.take k)) ∧ OwnD wx w.heap.size v zs ∧ PB w wx w1.heap.size m n m (.slice a ds.length ca) (.slice b es.length cb) v) (fun c i wx => ds.length - (intOf i).toNat)
  case atStart => exact ⟨0, 0, [], .slice none 0 0, rfl, rfl, rfl, Nat.zero_le _, by omega, by omega, by intro x hx; simp at hx, by show _ = _; simp [valD], World.ownsRow_nil _ _ _ _, unhide HPB⟩
  case round =>
    obtain ⟨k, C, zs, v, rfl, rfl, hk, hkL, hC0, hC1, hdz, HVV, ho, hP⟩ := hrel
    have hbel := hP.below
    obtain ⟨a0, a1, _, _⟩ := box2_facts hP.ba
    obtain ⟨b0, b1, _, _⟩ := box2_facts hP.bb
    by_cases h1 : k < ds.length
    · have t1 : (k : Int) < (ds.length : Int) := by omega
      have hdd := dig_bd (unhide HD) k
      have hee := dig_bd (unhide HE) k
      have hDa := (unhide HA).later hbel
      have hDb := (unhide HB).later hbel
      obtain ⟨x, hx⟩ : ∃ x, ds[k]? = some x := ⟨_, List.getElem?_eq_getElem h1⟩
      rw [dig_some hx] at hdd
      rcases hDa with e | ⟨ba, oa, e, hca⟩
      · rw [e] at hx; cases hx
      subst e
      have cx := hca k x hx
      have HN1 : Hid (valD (ds.take (k + 1)) = valD (ds.take k) + 65536 ^ k * x) := by show _ = _; rw [val_next, dig_some hx]
      have HN2 := hide (val_next es k)
      have HBB : Hid (∀ d os, Calls Tryz.prog 204 #[.agg #[.bool n, .slice b es.length cb], .int .i64 k] (grow (redrawn wr d) os) fun e w' => e = .returned (.int .u32 (dig es k)) ∧ Below (grow (redrawn wr d) os).heap.size (grow (redrawn wr d) os) w') := fun d os => digit_any b cb es n k _ (by omega) (by omega) (hDb.later (below_regrown _ _ _))
      generalize dig es k = y at HN2 HBB hee
      have k0 := cell_regrown a0
      have k1 := cell_regrown a1
      have k2 := cell_regrown b0
      have k3 := cell_regrown b1
      have k4 := cell_regrown cx
      have HO := hide ho
      have HP := hide hP
      have HK := hide hk
      have HZ := hide hdz
      have HL6 : Hid (zs.length ≤ 1000000) := by show _ ≤ _; omega
      clear hca hx hDb ho hP hk hdz cx
      go_wp2_with fail
      refine wp_region_quiet_below (by kernel_rfl) (by kernel_rfl) ?_
      repeat (go_big_quiet_step ((go_at_call 204; exact Calls.regrown_of (unhide HBB _ _))))
      refine wpQuiet_nil ?_
      intro w2 hw2
      have hB2 : Below wr.heap.size wr w2 := by obtain ⟨p, rfl⟩ := hw2; exact below_regrown _ _ _
      clear hw2 k0 k1 k2 k3 k4 a0 a1 b0 b1
      have hP2 := (unhide HP).later hB2
      have ho2 := (unhide HO).later hB2
      have HP2 := hide hP2
      obtain ⟨c0, c1, f0, f1⟩ := box2_facts hP2.bo
      have hsz : w.heap.size ≤ w2.heap.size := hP2.below.size
      clear hP2 hB2 HP HO
      obtain ⟨S, hS⟩ : ∃ S, S = x + 65536 - y - C := ⟨_, rfl⟩
      have HSS := hide hS
      have s0 : 0 ≤ S := by omega
      have s1 : S < 4294967296 := by omega
      have s2 : S / 65536 ≤ 1 := by omega
      have s3 : 0 ≤ S / 65536 := by omega
      have hx0 : k + 1 ≤ ds.length := by omega
      rw [← hS]
      have HA2 := hide (and_dig32 S s0 s1)
      clear hS hdd hee
      go_wp2_with (at_builtin; refine wpList_append_own_at _ rfl (.tmp 87) (.tmp 90) 157 rfl w.heap.size 175 i0 (.int .u32 0) 1 4 Tryz.underlying157 hi hz0 hz1 hz2 rfl (by decide) _ _ _ rfl (World.ownsRow.alloc ho2 _) ⟨w2.heap.size, 0, none⟩ 1 1 [.int .u32 (bits BinOp.and IntKind.u32 S 65535)] rfl rfl (cell_one_new _ _ _) (by intro u hu; simp at hu; subst hu; rfl) (by have := unhide HL6; unfold maxLen; omega) (by have := unhide HL6; omega) (by simp; omega) ?_; intro v' w3 hown' hgrow _ hat; have hgr : (w2.alloc (.cells #[.int .u32 (bits BinOp.and IntKind.u32 S 65535)] 175)).grownBy w3 v.ownBlock := hgrow; have ho3 := ownD_app hown'; clear hown' hgrow hat; obtain ⟨a', q', e', hq', hD'⟩ := ownD_dig ho3; subst e'; have hPA := (unhide HP2).app ho2 (Nat.le_refl _) ho3 hgr; obtain ⟨g0, g1, e0, e1⟩ := box2_facts (rowIs_grown ((unhide HP2).bo.alloc _) hgr (own_ne ((unhide HP2).bo.alloc _) (World.ownsRow.alloc ho2 (.cells #[.int .u32 (bits BinOp.and IntKind.u32 S 65535)] 175)) (by decide))))
      obtain ⟨hP4, ho4⟩ := hPA
      rw [List.length_append, List.length_singleton] at hP4 ho4
      rw [unhide HA2] at ho4
      refine ⟨⟨k + 1, 1 - S / 65536, zs ++ [S % 65536], .slice a' (zs.length + 1) q', by go_num, by go_num, by rw [List.length_append, List.length_singleton, unhide HK], hx0, by omega, by omega, (unhide HZ).snoc (Int.emod_nonneg _ (by omega)) (Int.emod_lt_of_pos _ (by omega)), ?_, ho4, hP4⟩, ?_⟩
      · show _ = _
        rw [unhide HN1, unhide HN2]
        exact minus_step zs k (unhide HK) S C x y _ _ (unhide HSS) (unhide HVV)
      · simp only [intOf]; omega
    · have t1 : ¬ (k : Int) < (ds.length : Int) := by omega
      have ek : k = ds.length := by omega
      have hv : valD zs = valD ds - valD es := by
        have h := unhide HVV
        rw [ek] at h
        exact minus_end zs ds es C hdz (by omega) (unhide HLE) hC0 hC1 (unhide HV) h
      obtain ⟨a', q', e', hq', hD'⟩ := ownD_dig ho
      subst e'
      obtain ⟨rs, er, hlr, hdr, hvr, htr⟩ := trim_good zs hdz
      have HR := hide (hvr.trans hv)
      have HDr := hide hdr
      have HT := hide htr
      have HC2 := hide (trimmed_any a' q' zs m wr (by omega) hq' hD')
      have hqr : rs.length ≤ q' := by have := trimN_le zs zs.length; omega
      rw [← hlr] at HC2
      have HER := hide er
      have HP := hide hP
      have HO := hide ho
      obtain ⟨c0, c1, f0, f1⟩ := box2_facts hP.bo
      clear hv hvr hdr htr hdz ek er hlr hP ho hD' hk
      go_wp2_with fail
      refine (unhide HC2).mono ?_
      rintro e w3 ⟨rfl, hb3⟩
      have hP3 := (unhide HP).later hb3
      obtain ⟨z0, z1, y0, y1⟩ := box2_facts hP3.bz
      go_wp2_with fail
      refine bodyPost_ret (v := .agg #[.bool (m && decide (0 < rs.length)), .slice a' rs.length q']) (by simp [results, Tryz.results154, go_sem, *]) rfl ⟨a', q', rs, rfl, hqr, ownD_none (unhide HO), ?_, unhide HDr, unhide HT, unhide HR, ?_⟩
      · have h := (ownD_at (own_set (j := 1) (u := .slice a' rs.length q') (own_set (j := 0) (u := .bool (m && decide (0 < rs.length))) ((unhide HO).later hb3) hP3.bz (by decide)) (hP3.bz.set _ _) (by decide))).take (trimN zs zs.length)
        rw [unhide HER] at h
        exact h
      · exact (hP3.below.setCell (by simp <;> omega) _).setCell (by simp <;> omega) _
end Go.Proofs.YtmjeiepljlepbacGreat
set_option linter.unusedSimpArgs false
set_option linter.unusedVariables false
set_option maxRecDepth 100000
namespace Go.Proofs.YtmjeiepljlepbacGreat
open Go.RowKit Go.Sort

theorem LongV.later {w w' : World} {v : Value} {z : Int} (h : LongV w v z) (hb : Below w.heap.size w w') : LongV w' v z := by
  obtain ⟨a, cap, ds, h1, h2, h3, h4, h5⟩ := h
  exact ⟨a, cap, ds, h1, h2, h3, h4.later hb, h5⟩
/-- A number whose digits are few. -/
def Fits (z : Int) : Prop := -(65536 ^ 30) < z ∧ z < 65536 ^ 30
theorem fits_len {ds : List Int} {z : Int} (hd : Digs ds) (ht : trimN ds ds.length = ds.length) (hv : valD ds = z ∨ valD ds = -z) (hz : Fits z) : ds.length ≤ 30 := by
  cases hl : ds.length with
  | zero => omega
  | succ n =>
    have h1 := val_ge hd hl ht
    by_cases h : n < 30
    · omega
    · have h2 := pow_mono (m := 30) (n := n) (by omega)
      obtain ⟨z1, z2⟩ := hz
      omega

theorem DigAt.set {w : World} {a : Option Addr} {zs : List Int} {g j : Nat} {F : Nat → Value} {u : Value} (h : DigAt w a zs) (hr : w.rowIs g 159 2 F) (hF : ∀ k, k < 2 → ∀ x, F k ≠ .int .u32 x) : DigAt (w.setCell ⟨g, j, none⟩ u) a zs := by
  rcases h with h | ⟨b, off, ha, h⟩
  · exact .inl h
  · refine .inr ⟨b, off, ha, fun i x hx => ?_⟩
    have hc := h i x hx
    by_cases e : b = g
    · subst e
      obtain ⟨c, hb, hn, hcc⟩ := hr
      have hlt : off + i < 2 := by
        simp [World.cell?, hb] at hc
        have := (Array.getElem?_eq_some_iff.1 hc).1
        omega
      have h2 := hcc (off + i) hlt
      simp [World.cell?, hb, h2] at hc
      exact absurd hc (hF _ hlt x)
    · exact (World.cell?_of_block (w := w) (Go.Deep.blk_setCell_other _ _ _ _ e)).trans hc
theorem DigAt.set2 {w : World} {a : Option Addr} {zs : List Int} {g : Nat} {o o' : Bool} {s s' : Option Addr} {l c l' c' : Nat} (h : DigAt w a zs) (hr : w.rowIs g 159 2 (box2 (.bool o) (.slice s l c))) : DigAt ((w.setCell ⟨g, 0, none⟩ (.bool o')).setCell ⟨g, 1, none⟩ (.slice s' l' c')) a zs := by
  refine (h.set hr ?_).set (hr.set 0 _) ?_
  · intro k hk x
    match k, hk with
    | 0, _ => simp [box2]
    | 1, _ => simp [box2]
  · intro k hk x
    match k, hk with
    | 0, _ => simp
    | 1, _ => simp [box2]

set_option maxHeartbeats 1000000 in
theorem plus_lt (a b : Option Addr) (ca cb : Nat) (ds es : List Int) (m n : Bool) (w : World) (hmn : (m == n) = false) (hl : es.length ≤ 1000000) (hle : ds.length ≤ es.length) (hd : Digs ds) (he : Digs es) (hs0 : sizeV ds es < 0) (hs1 : 0 ≤ sizeV es ds) (hv : valD ds ≤ valD es) (ha : DigAt w a ds) (hb : DigAt w b es) :
    Calls Tryz.prog 154 #[.agg #[.bool m, .slice a ds.length ca], .agg #[.bool n, .slice b es.length cb]] w fun e w' =>
      ∃ a' c' zs, e = .returned (.agg #[.bool (n && decide (0 < zs.length)), .slice a' zs.length c']) ∧ zs.length ≤ c' ∧ (a' = none → c' = 0) ∧ DigAt w' a' zs ∧ Digs zs ∧ trimN zs zs.length = zs.length ∧ valD zs = valD es - valD ds ∧ Below w.heap.size w w' := by
  have hnm : (n == m) = false := by cases m <;> cases n <;> simp_all
  have HS := hide (fun (w' : World) (h : Below w.heap.size w w') => size_anyL a b ca cb ds es m n w' (by omega) (by omega) (ha.later h) (hb.later h))
  have HP := hide (fun (w' : World) (h : Below w.heap.size w w') => plus_ge b a cb ca es ds n m w' hnm hl hle he hd hs1 hv (hb.later h) (ha.later h))
  generalize sizeV ds es = sz at HS hs0
  clear ha hb hd he hv hle hs1
  go_enter Tryz.func154, Tryz.ntmps154
  go_wp2_with (first
    | (go_at_call 205; refine (unhide HS _ (below_alloc (below_alloc (below_alloc (Below.refl _ _) _) _) _)).mono ?_; rintro e w1 ⟨rfl, hb1⟩; obtain ⟨hB1, r1, s1, z1⟩ := three_boxes hb1; obtain ⟨t0, t1, _, _⟩ := box2_facts r1; obtain ⟨o0, o1, _, _⟩ := box2_facts s1; clear hb1)
    | (go_at_call 154; refine (unhide HP _ hB1).mono ?_; rintro e w2 ⟨a', c', zs, rfl, hc, hn0, hD, hdz, htz, hvz, hb2⟩; obtain ⟨x0, x1, y0, y1⟩ := box2_facts (rowIs_later z1 hb2)))
  refine bodyPost_ret (v := .agg #[.bool (n && decide (0 < zs.length)), .slice a' zs.length c']) (by simp [results, Tryz.results154, go_sem, *]) rfl ⟨a', c', zs, rfl, hc, hn0, ?_, hdz, htz, hvz, ?_⟩
  · exact hD.set2 (rowIs_later z1 hb2)
  · exact ((below_step hB1 hb2).setCell (by simp <;> omega) _).setCell (by simp <;> omega) _
theorem sizeV_anti {ds es : List Int} (hd : Digs ds) (he : Digs es) (ht : trimN ds ds.length = ds.length) (ht2 : trimN es es.length = es.length) : sizeV es ds = - sizeV ds es := by
  rw [sizeV_val hd he ht ht2, sizeV_val he hd ht2 ht]
  unfold cmpI
  by_cases h1 : valD ds < valD es
  · simp [h1, show ¬ valD es < valD ds by omega]
  · by_cases h2 : valD es < valD ds
    · simp [h1, h2]
    · simp [h1, h2]
theorem len_of_val {ds es : List Int} (hd : Digs ds) (he : Digs es) (ht : trimN es es.length = es.length) (h : valD es ≤ valD ds) : es.length ≤ ds.length := by
  by_cases hh : es.length ≤ ds.length
  · exact hh
  · have := val_len hd he ht (by omega); omega

theorem pos_of_val {zs : List Int} (hd : Digs zs) (ht : trimN zs zs.length = zs.length) : decide (0 < zs.length) = decide (0 < valD zs) := by
  by_cases h : zs = []
  · subst h; rfl
  · have h1 : 0 < zs.length := List.length_pos_iff.2 h
    have h2 : 0 < valD zs := by
      have h3 := valD_nonneg hd
      rcases Int.lt_or_eq_of_le h3 with h4 | h4
      · exact h4
      · exact absurd (val_zero hd ht h4.symm) h
    simp [h1, h2]

/-- x plus y. -/
theorem plus_any (vx vy : Value) (x y : Int) (w : World) (fx : Fits x) (fy : Fits y) (hx : LongV w vx x) (hy : LongV w vy y) :
    Calls Tryz.prog 154 #[vx, vy] w fun e w' => ∃ v, e = .returned v ∧ LongV w' v (x + y) ∧ Below w.heap.size w w' := by
  obtain ⟨a, ca, ds, rfl, h2, h3, h4, h5, h6, h7⟩ := hx
  obtain ⟨b, cb, es, rfl, k2, k3, k4, k5, k6, k7⟩ := hy
  have l1 := fits_len h5 h6 h7 fx
  have l2 := fits_len k5 k6 k7 fy
  have n1 := valD_nonneg h5
  have n2 := valD_nonneg k5
  by_cases hm : decide (x < 0) = decide (y < 0)
  · rw [← hm]
    refine (plus_same a b ca cb ds es (decide (x < 0)) w (by omega) (by omega) h5 k5 h4 k4).mono fun e w' ⟨a', c', zs, he, hc, hn, hD, hdz, htz, hvz, hb⟩ => ?_
    subst he
    refine ⟨_, rfl, ⟨a', c', zs, ?_, hc, hn, hD, hdz, htz, ?_⟩, hb⟩
    · rw [pos_of_val hdz htz, hvz]
      congr 2
      by_cases h : x < 0
      · have : y < 0 := by simpa [h] using hm.symm
        simp [h]; omega
      · have : ¬ y < 0 := by simpa [h] using hm.symm
        simp [h]; omega
    · rw [hvz]
      by_cases h : x < 0
      · have : y < 0 := by simpa [h] using hm.symm
        right; omega
      · have : ¬ y < 0 := by simpa [h] using hm.symm
        left; omega
  · have hmn : (decide (x < 0) == decide (y < 0)) = false := by simpa using hm
    have hsv := sizeV_val h5 k5 h6 k6
    have hsa := sizeV_anti h5 k5 h6 k6
    have hsg : (x < 0 ∧ ¬ y < 0) ∨ (¬ x < 0 ∧ y < 0) := by
      by_cases h : x < 0
      · left; refine ⟨h, fun hh => hm (by simp [h, hh])⟩
      · right; refine ⟨h, ?_⟩
        by_cases hh : y < 0
        · exact hh
        · exact absurd (by simp [h, hh]) hm
    by_cases hge : valD es ≤ valD ds
    · have hs0 : 0 ≤ sizeV ds es := by
        rw [hsv]; unfold cmpI
        rw [if_neg (by omega)]; split <;> omega
      refine (plus_ge a b ca cb ds es _ _ w hmn (by omega) (len_of_val h5 k5 k6 hge) h5 k5 hs0 hge h4 k4).mono fun e w' ⟨a', c', zs, he, hc, hn, hD, hdz, htz, hvz, hb⟩ => ?_
      subst he
      refine ⟨_, rfl, ⟨a', c', zs, ?_, hc, hn, hD, hdz, htz, ?_⟩, hb⟩
      · rw [pos_of_val hdz htz, hvz]
        congr 2
        rcases hsg with ⟨s1, s2⟩ | ⟨s1, s2⟩
        · simp [s1]; omega
        · simp [s1]; omega
      · rw [hvz]; omega
    · have hs0 : sizeV ds es < 0 := by
        rw [hsv]; unfold cmpI
        rw [if_pos (by omega)]; omega
      refine (plus_lt a b ca cb ds es _ _ w hmn (by omega) (len_of_val k5 h5 h6 (by omega)) h5 k5 hs0 (by omega) (by omega) h4 k4).mono fun e w' ⟨a', c', zs, he, hc, hn, hD, hdz, htz, hvz, hb⟩ => ?_
      subst he
      refine ⟨_, rfl, ⟨a', c', zs, ?_, hc, hn, hD, hdz, htz, ?_⟩, hb⟩
      · rw [pos_of_val hdz htz, hvz]
        congr 2
        rcases hsg with ⟨s1, s2⟩ | ⟨s1, s2⟩
        · simp [s2]; omega
        · simp [s2]; omega
      · rw [hvz]; omega
end Go.Proofs.YtmjeiepljlepbacGreat
set_option linter.unusedSimpArgs false
set_option linter.unusedVariables false
set_option maxRecDepth 100000
namespace Go.Proofs.YtmjeiepljlepbacGreat
open Go.RowKit Go.Sort

/-- Digits in memory without zeros at the end, of the number z. -/
def LongS (w : World) (s : Value) (z : Int) : Prop :=
  ∃ a cap zs, s = .slice a zs.length cap ∧ zs.length ≤ cap ∧ (a = none → cap = 0) ∧ DigAt w a zs ∧ Digs zs ∧ trimN zs zs.length = zs.length ∧ valD zs = z
theorem LongS.later {w w' : World} {s : Value} {z : Int} (h : LongS w s z) (hb : Below w.heap.size w w') : LongS w' s z := by
  obtain ⟨a, c, zs, h1, h2, h3, h4, h5⟩ := h
  exact ⟨a, c, zs, h1, h2, h3, h4.later hb, h5⟩
theorem LongS.nonneg {w : World} {s : Value} {z : Int} (h : LongS w s z) : 0 ≤ z := by
  obtain ⟨a, c, zs, h1, h2, h3, h4, h5, h6, rfl⟩ := h
  exact valD_nonneg h5
theorem LongS.long {w : World} {s : Value} {z : Int} (h : LongS w s z) : LongV w (.agg #[.bool false, s]) z := by
  have hn := h.nonneg
  obtain ⟨a, c, zs, rfl, h2, h3, h4, h5, h6, h7⟩ := h
  exact ⟨a, c, zs, by rw [show decide (z < 0) = false by simp; omega], h2, h3, h4, h5, h6, .inl h7⟩
theorem LongV.plain {w : World} {v : Value} {z : Int} (h : LongV w v z) (hz : 0 ≤ z) : ∃ s, v = .agg #[.bool false, s] ∧ LongS w s z := by
  obtain ⟨a, c, zs, rfl, h2, h3, h4, h5, h6, h7⟩ := h
  have hn := valD_nonneg h5
  exact ⟨_, by rw [show decide (z < 0) = false by simp; omega], a, c, zs, rfl, h2, h3, h4, h5, h6, by omega⟩
theorem LongS.set {w : World} {s : Value} {z : Int} {g j : Nat} {F : Nat → Value} {u : Value} (h : LongS w s z) (hr : w.rowIs g 159 2 F) (hF : ∀ k, k < 2 → ∀ x, F k ≠ .int .u32 x) : LongS (w.setCell ⟨g, j, none⟩ u) s z := by
  obtain ⟨a, c, zs, h1, h2, h3, h4, h5⟩ := h
  exact ⟨a, c, zs, h1, h2, h3, h4.set hr hF, h5⟩
theorem box2_no {o : Bool} {s : Value} (hs : ∃ a l c, s = .slice a l c) : ∀ k, k < 2 → ∀ x, box2 (.bool o) s k ≠ .int .u32 x := by
  obtain ⟨a, l, c, rfl⟩ := hs
  intro k hk x
  match k, hk with
  | 0, _ => simp [box2]
  | 1, _ => simp [box2]
theorem box2_both {w : World} {g : Nat} {a b u v : Value} (h : w.rowIs g 159 2 (box2 a b)) : ((w.setCell ⟨g, 0, none⟩ u).setCell ⟨g, 1, none⟩ v).rowIs g 159 2 (box2 u v) := ((h.set 0 u).set 1 v).congr fun i hi => by
  match i, hi with
  | 0, _ => rfl
  | 1, _ => rfl
theorem LongS.set2 {w : World} {s : Value} {z : Int} {g : Nat} {o o' : Bool} {s0 s1 : Value} (h : LongS w s z) (hr : w.rowIs g 159 2 (box2 (.bool o) s0)) (hs : ∃ a l c, s0 = .slice a l c) : LongS ((w.setCell ⟨g, 0, none⟩ (.bool o')).setCell ⟨g, 1, none⟩ s1) s z := by
  have h1 : (w.setCell ⟨g, 0, none⟩ (.bool o')).rowIs g 159 2 (box2 (.bool o') s0) := (hr.set 0 _).congr fun i hi => by
    match i, hi with
    | 0, _ => rfl
    | 1, _ => rfl
  exact (h.set hr (box2_no hs)).set h1 (box2_no hs)
theorem LongS.shape {w : World} {s : Value} {z : Int} (h : LongS w s z) : ∃ a l c, s = .slice a l c := by
  obtain ⟨a, c, zs, h1, _⟩ := h
  exact ⟨a, _, c, h1⟩

theorem trimmed_s (a : Option Addr) (cap : Nat) (ds : List Int) (m : Bool) (w : World) (hl : ds.length ≤ 1000000000) (hcap : ds.length ≤ cap) (hn : a = none → cap = 0) (hd : Digs ds) (ha : DigAt w a ds) :
    Calls Tryz.prog 156 #[.agg #[.bool m, .slice a ds.length cap]] w fun e w' => ∃ s, e = .returned (.agg #[.bool (m && decide (0 < valD ds)), s]) ∧ LongS w' s (valD ds) ∧ Below w.heap.size w w' := by
  refine (trimmed_any a cap ds m w hl hcap ha).mono fun e w' ⟨he, hb⟩ => ?_
  subst he
  obtain ⟨rs, er, hlr, hdr, hvr, htr⟩ := trim_good ds hd
  have hp := pos_of_val hdr htr
  rw [hlr, hvr] at hp
  refine ⟨.slice a (trimN ds ds.length) cap, by rw [hp], ⟨a, cap, rs, by rw [hlr], by have := trimN_le ds ds.length; omega, hn, ?_, hdr, htr, hvr⟩, hb⟩
  have := (ha.later hb).take (trimN ds ds.length)
  rw [er] at this
  exact this

/-- append([]uint32{0}, out.d...). -/
theorem wpList_zero_front {ops : Array Oper} {rest : List Oper} {o : Oper} {a : Act} {Q : Exit → Act → World → Prop} (w : World) (hgd : o.guard = none) (s x : Operand) (ho : o.op = .call { callee := .builtin .append, args := #[s, x], argTypes := #[157, 157] })
    (base : Nat) (v u : Value) (z : Int) (hs : a.eval s = v) (hx : a.eval x = u) (hown : OwnD w base v [0]) (hu : LongS w u z) (hlen : ∀ b l c, u = .slice b l c → l ≤ 1000000) (hbase : base ≤ w.heap.size)
    (h : ∀ v' w' ys, OwnD w' base v' ys → ys.length ≤ 1000001 → Digs ys → valD ys = 65536 * z → w.grownBy w' v.ownBlock → wpList Tryz.prog ops Q rest (a.put o.dst v') w') : wpList Tryz.prog ops Q (o :: rest) a w := by
  obtain ⟨i0, hi, hz0, hz1, hz2⟩ := info_parts Tryz.info175
  obtain ⟨b, cap, zs, rfl, h2, h3, h4, h5, h6, h7⟩ := hu
  have hl := hlen _ _ _ rfl
  have hd : Digs ([0] ++ zs) := by
    intro y hy
    rcases List.mem_append.1 hy with hy | hy
    · simp at hy; subst hy; omega
    · exact h5 y hy
  have hv : valD ([0] ++ zs) = 65536 * z := by simp [valD, h7]
  rcases h4 with e | ⟨bb, off, rfl, hc⟩
  · subst e
    cases b with
    | none =>
      have hc0 := h3 rfl
      subst hc0
      refine wpList_append_own_none hgd s x 157 ho base 175 i0 1 Tryz.underlying157 hi v 1 [.int .u32 0] hs hown hx ?_
      exact h v w [0] hown (by simp) hd hv (World.grownBy.refl _ _)
    | some ad =>
      refine wpList_append_own_at w hgd s x 157 ho base 175 i0 (.int .u32 0) 1 4 Tryz.underlying157 hi hz0 hz1 hz2 rfl (by decide) v 1 [.int .u32 0] hs hown ad 0 cap [] hx rfl (by simp) (by simp) (by unfold maxLen; omega) (by omega) hbase ?_
      intro v' w' h1 h2' _ _
      exact h v' w' [0] h1 (by simp) hd hv h2'
  · refine wpList_append_own_at w hgd s x 157 ho base 175 i0 (.int .u32 0) 1 4 Tryz.underlying157 hi hz0 hz1 hz2 rfl (by decide) v 1 [.int .u32 0] hs hown ⟨bb, off, none⟩ zs.length cap (zs.map (.int .u32)) hx (by simp) ?_ (by intro u hu; obtain ⟨y, _, rfl⟩ := List.mem_map.1 hu; rfl) (by unfold maxLen; omega) (by omega) hbase ?_
    · intro j u hj
      rw [List.getElem?_map] at hj
      obtain ⟨y, hy, rfl⟩ := Option.map_eq_some_iff.1 hj
      rw [Addr.add_lit]
      exact hc j y hy
    · intro v' w' h1 h2' _ _
      refine h v' w' ([0] ++ zs) ?_ (by simp; omega) hd hv h2'
      unfold OwnD
      have e1 : ([0] ++ zs).length = 1 + zs.length := by simp; omega
      rw [e1]
      simpa using h1
end Go.Proofs.YtmjeiepljlepbacGreat

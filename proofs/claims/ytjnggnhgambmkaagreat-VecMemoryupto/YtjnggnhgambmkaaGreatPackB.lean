import Derived.Test.YtjnggnhgambmkaaGreatMmD
import Derived.Lib.AppendStr
import Derived.OrdersHeld
import Derived.Deep.RegionHeld3
set_option linter.unusedSimpArgs false
set_option linter.unusedVariables false
namespace Go.Proofs.YtjnggnhgambmkaaGreat
open Go.RowKit Go.Sort

theorem Tryz.info5 : (Tryz.prog.info? 5).map (fun i => (i.zero, i.size, i.bytes)) = some (some (.int .u8 0), 1, 1) := by kernel_rfl

/-- The slice of bytes v, a row of the call's own, holds the numbers zs. -/
def OwnB (w : World) (base : Nat) (v : Value) (zs : List Int) : Prop := w.ownsRow base 5 1 v zs.length (zs.map (Value.int .u8))
/-- w' is w with new blocks, and with writes to v's own row alone; v' lies there, or in a new block. -/
def Grew (w w' : World) (v v' : Value) : Prop := w.grownBy w' v.ownBlock ∧ (v'.ownBlock = v.ownBlock ∨ ∃ g, v'.ownBlock = some g ∧ w.heap.size ≤ g)

theorem Grew.refl (w : World) (v : Value) : Grew w w v v := ⟨⟨rfl, rfl, rfl, Nat.le_refl _, fun _ _ _ => rfl⟩, .inl rfl⟩
theorem Grew.trans {a b c : World} {u v x : Value} (h : Grew a b u v) (k : Grew b c v x) : Grew a c u x := by
  obtain ⟨h1, h2⟩ := h
  obtain ⟨k1, k2⟩ := k
  refine ⟨⟨k1.os.trans h1.os, k1.tape.trans h1.tape, k1.output.trans h1.output, Nat.le_trans h1.size k1.size, fun i hi hne => ?_⟩, ?_⟩
  · rw [k1.block i (Nat.lt_of_lt_of_le hi h1.size) ?_, h1.block i hi hne]
    rcases h2 with h2 | ⟨g, h2, hg⟩
    · rw [h2]; exact hne
    · rw [h2]; intro e; cases e; omega
  · rcases k2 with k2 | ⟨g, k2, hg⟩
    · rcases h2 with h2 | ⟨g, h2, hg⟩
      · exact .inl (k2.trans h2)
      · exact .inr ⟨g, k2.trans h2, hg⟩
    · exact .inr ⟨g, k2, Nat.le_trans h1.size hg⟩
/-- An alloc, then an append. -/
theorem Grew.app {a b c : World} {u v x : Value} {o : Obj} (h : Grew a b u v) (hg : (b.alloc o).grownBy c v.ownBlock) (hat : x.ownBlock = v.ownBlock ∨ x.ownBlock = some (b.alloc o).heap.size) : Grew a c u x := by
  refine h.trans ⟨⟨hg.os, hg.tape, hg.output, ?_, fun i hi hne => ?_⟩, ?_⟩
  · have := hg.size; simp at this; omega
  · rw [hg.block i (by simp; omega) hne, Below.heap_alloc b o i hi]
  · rcases hat with h | h
    · exact .inl h
    · exact .inr ⟨_, h, by simp⟩
/-- Two allocs, then an append. -/
theorem Grew.app2 {b c : World} {v x : Value} {o o2 : Obj} (hg : ((b.alloc o).alloc o2).grownBy c v.ownBlock) (hat : x.ownBlock = v.ownBlock ∨ x.ownBlock = some ((b.alloc o).alloc o2).heap.size) : Grew b c v x := by
  refine ⟨⟨hg.os, hg.tape, hg.output, ?_, fun i hi hne => ?_⟩, ?_⟩
  · have := hg.size; simp at this; omega
  · rw [hg.block i (by simp; omega) hne, Below.heap_alloc _ o2 i (by simp; omega), Below.heap_alloc b o i hi]
  · rcases hat with h | h
    · exact .inl h
    · exact .inr ⟨_, h, by simp; omega⟩
theorem Grew.below {a b : World} {u v : Value} (h : Grew a b u v) {B : Nat} (hB : B ≤ a.heap.size) (hu : ∀ g, u.ownBlock = some g → B ≤ g) : Below B a b :=
  ⟨h.1.os, h.1.tape, h.1.output, h.1.size, fun k hk => h.1.block k (by omega) (fun e => by have := hu k e.symm; omega)⟩

theorem ownB_app {w : World} {base : Nat} {v : Value} {ys news : List Int} {m : Nat} (hm : news.length = m) (h : w.ownsRow base 5 1 v (ys.length + m) (ys.map (Value.int .u8) ++ news.map (Value.int .u8))) : OwnB w base v (ys ++ news) := by
  unfold OwnB
  rw [List.length_append, List.map_append, hm]
  exact h

theorem ownB_lt {w : World} {base : Nat} {v : Value} {zs : List Int} (h : OwnB w base v zs) {g : Nat} (hg : v.ownBlock = some g) : base ≤ g ∧ g < w.heap.size := World.ownsRow.lt h g hg
theorem grew_kept {w1 w2 : World} {u v : Value} (h : Grew w1 w2 u v) {b : Nat} (hb : b < w1.heap.size) (hne : u.ownBlock ≠ some b) (j : Nat) : w2.cell? ⟨b, j, none⟩ = w1.cell? ⟨b, j, none⟩ :=
  World.cell?_of_block (a := ⟨b, j, none⟩) (h.1.block b hb (fun e => hne e.symm))

/-- The bytes as a text. -/
def toB (zs : List Int) : ByteArray := zs.foldl (fun r n => r.push (UInt8.ofNat n.toNat)) ByteArray.empty

theorem convert_own {w : World} {base : Nat} {v : Value} {zs : List Int} (h : OwnB w base v zs) : (convert 78 9 v).run Tryz.prog w = .ok (.string (toB zs)) w := by
  rcases h.2 with ⟨rfl, h0⟩ | ⟨g, cap, cur, rfl, hb, hg, _⟩
  · have : zs = [] := List.eq_nil_of_length_eq_zero h0
    subst this
    rw [run_convert_bytes_string w 78 9 5 none 0 0 Tryz.underlying78 Tryz.underlying5 Tryz.underlying9]
    rfl
  · rw [run_convert_bytes_string w 78 9 5 _ _ _ Tryz.underlying78 Tryz.underlying5 Tryz.underlying9]
    refine run_bytesToString w _ _ _ zs ?_
    have := run_loadCells_list (P := Tryz.prog) (w := w) ⟨g, 0, none⟩ (zs.map (Value.int .u8)) (World.ownsRow.cells h rfl)
    simpa using this

def ofI (n : Int) : UInt8 := UInt8.ofNat n.toNat
theorem toB_fold (zs : List Int) : ∀ acc : ByteArray, zs.foldl (fun r n => r.push (UInt8.ofNat n.toNat)) acc = ⟨acc.data ++ (zs.map ofI).toArray⟩ := by
  induction zs with
  | nil => intro acc; simp
  | cons z zs ih =>
    intro acc
    rw [List.foldl_cons, ih]
    congr 1
    simp [ByteArray.push, ofI]
theorem toB_eq (zs : List Int) : toB zs = ⟨(zs.map ofI).toArray⟩ := by
  unfold toB
  rw [toB_fold]
  show ByteArray.mk (#[] ++ _) = _
  rw [Array.empty_append]
theorem toB_append (a b : List Int) : toB (a ++ b) = toB a ++ toB b := by
  rw [toB_eq, toB_eq, toB_eq]
  simp only [List.map_append]
  apply ByteArray.ext
  simp
theorem toB_size (a : List Int) : (toB a).size = a.length := by
  rw [toB_eq]; simp [ByteArray.size]
theorem toB_cons (z : Int) (a : List Int) : toB (z :: a) = toB [z] ++ toB a := toB_append [z] a

/-- The k-th of n bytes of a number, the high one first. -/
def beN (U : Int) (n k : Nat) : Int := U / 2 ^ (8 * (n - 1 - k)) % 256
def beL (U : Int) (n k : Nat) : List Int := (List.range k).map (beN U n)
theorem beL_succ (U : Int) (n k : Nat) : beL U n (k + 1) = beL U n k ++ [beN U n k] := by simp [beL, List.range_succ]
theorem beL_len (U : Int) (n k : Nat) : (beL U n k).length = k := by simp [beL]

set_option maxHeartbeats 1000000 in
theorem appnum_any (base : Nat) (zs : List Int) (U : Int) (n : Nat) (v : Value) (w : World) (hn : n ≤ 8) (hown : OwnB w base v zs) (hlen : zs.length ≤ 140737488300000) (hbase : base ≤ w.heap.size) :
    Calls Tryz.prog 44 #[v, .int .u64 U, .int .i64 n] w fun e w' => ∃ v', e = .returned v' ∧ OwnB w' base v' (zs ++ beL U n n) ∧ Grew w w' v v' := by
  obtain ⟨i0, hi, hz0, hz1, hz2⟩ := info_parts Tryz.info5
  go_enter Tryz.func44, Tryz.ntmps44
  go_wp2_with fail
  go_loopw [0, 9] (fun key s wr => ∃ k : Nat, k ≤ n ∧ s = .int .i64 (k : Int) ∧ OwnB wr base key (zs ++ beL U n k) ∧ Grew w wr v key) (fun _ s _ => n - (intOf s).toNat)
  case atStart => exact ⟨0, Nat.zero_le _, rfl, by simpa [beL] using hown, Grew.refl _ _⟩
  case round =>
    obtain ⟨k, hk, rfl, ho, hg⟩ := hrel
    by_cases h8 : k < n
    · have h9 : (k : Int) < (n : Int) := by omega
      have hl : (zs ++ beL U n k).length = zs.length + k := by rw [List.length_append, beL_len]
      have HL := hide hl
      have es : ((n : Int) - 1 - (k : Int)) = ((n - 1 - k : Nat) : Int) := by omega
      have h10 : (0 : Int) ≤ 8 * ((n : Int) - 1 - (k : Int)) := by omega
      have h11 : (8 * ((n : Int) - 1 - (k : Int))).toNat = 8 * (n - 1 - k) := by omega
      clear hl
      go_wp2_with (at_builtin; refine wpList_append_own_at _ rfl (.tmp 12) (.tmp 21) 78 rfl base 5 i0 (.int .u8 0) 1 1 Tryz.underlying78 hi hz0 hz1 hz2 rfl (by decide) _ _ _ rfl (World.ownsRow.alloc ho _) ⟨wr.heap.size, 0, none⟩ 1 1 [.int .u8 (beN U n k)] rfl rfl (cell_one_new _ _ _) (by intro u hu; simp at hu; subst hu; rfl) (by rw [unhide HL]; unfold maxLen; omega) (by rw [unhide HL]; omega) (by have := hg.1.size; simp; omega) ?_; intro v' w1 hown' hgrow _ hat)
      have hg2 := Grew.app hg hgrow hat
      have ho2 := ownB_app (news := [beN U n k]) rfl hown'
      rw [List.append_assoc, ← beL_succ] at ho2
      refine ⟨⟨k + 1, by omega, by go_num, ho2, hg2⟩, ?_⟩
      simp only [intOf]
      omega
    · have hk8 : k = n := by omega
      have h9 : ¬ (k : Int) < (n : Int) := by omega
      subst hk8
      go_wp2
      go_ret
      exact ⟨_, rfl, ho, hg⟩
end Go.Proofs.YtjnggnhgambmkaaGreat
set_option linter.unusedSimpArgs false
set_option linter.unusedVariables false
namespace Go.Proofs.YtjnggnhgambmkaaGreat
open Go.RowKit Go.Sort

theorem pnull_any (x : Val) (w : World) : Calls Tryz.prog 48 #[x.v] w fun e w' => e = .returned (.bool (x.k == 0)) ∧ Below w.heap.size w w' := by
  rw [x.open_]
  go_enter Tryz.func48, Tryz.ntmps48
  go_wp2
  go_ret
  exact ⟨rfl, (Below.refl _ _).alloc (Nat.le_refl _) _⟩
/-- So many bytes for k numbers of d bits. -/
def bytesN (k d : Nat) : Nat := (k * d + 7) / 8
theorem bytesfor_any (k d : Nat) (w : World) (hk : k ≤ 1000000) (hd : d ≤ 64) : Calls Tryz.prog 76 #[.int .i64 k, .int .i64 d] w fun e w' => e = .returned (.int .i64 (bytesN k d)) ∧ w' = w := by
  have hm : (k : Int) * (d : Int) ≤ 64000000 := by
    have := Nat.mul_le_mul hk hd
    have e : ((k * d : Nat) : Int) = (k : Int) * (d : Int) := by simp
    omega
  have hm0 : (0 : Int) ≤ (k : Int) * (d : Int) := Int.mul_nonneg (by omega) (by omega)
  have e1 : ((k : Int) * (d : Int) + 7).tdiv 8 = (bytesN k d : Int) := by
    rw [Int.tdiv_eq_ediv_of_nonneg (by omega)]
    unfold bytesN
    simp
  obtain ⟨M, hM⟩ : ∃ M, M = (k : Int) * (d : Int) := ⟨_, rfl⟩
  rw [← hM] at hm hm0 e1
  go_enter Tryz.func76, Tryz.ntmps76
  go_wp2
  try rw [← hM]
  go_ret
  refine ⟨?_, rfl⟩
  first | rw [e1] | rw [e2] | (rw [Int.tdiv_eq_ediv_of_nonneg (by omega)] at e1; rw [e1]; rfl)
end Go.Proofs.YtjnggnhgambmkaaGreat
set_option linter.unusedSimpArgs false
set_option linter.unusedVariables false
namespace Go.Proofs.YtjnggnhgambmkaaGreat
open Go.RowKit Go.Sort

/-! Loads taken first in a region that overwrites, at its end, what they read: the condition is asked only as long as operation k has not come up. -/
section
variable {P : Program} {ops : Array Oper} {Q : Exit → Act → World → Prop} {md : Region.Mode} {S : World → Prop} {k : Nat}

def anyG (P : Program) (md : Region.Mode) (ops : Array Oper) (Q : Exit → Act → World → Prop) (S : World → Prop) (k : Nat) : Nat → Array Bool → Act → World → Prop
  | 0, L, a, w => Region.ready md ops L = [] ∧ Q .normal a w
  | f + 1, L, a, w => (Region.ready md ops L = [] → Q .normal a w) ∧ ∀ i ∈ Region.ready md ops L, wpOp P ops Q i (fun a' w' => ((L.setIfInBounds i true).getD k true = false → S w') ∧ anyG P md ops Q S k f (L.setIfInBounds i true) a' w') a w

theorem any_of_G : ∀ (f : Nat) (L : Array Bool) (a : Act) (w : World), anyG P md ops Q S k f L a w → wpAny P md ops Q f L a w
  | 0, _, _, _, h => h
  | f + 1, _, _, _, h => ⟨h.1, fun i hi => wpOp_mono (fun a' w' h' => any_of_G f _ a' w' h'.2) (h.2 i hi)⟩

/-- None of K can come up ahead of i. -/
def waits (md : Region.Mode) (ops : Array Oper) (i : Nat) (K : List Nat) : Bool :=
  K.all fun c => match ops[c]? with
    | some o => o.after.any fun e => Region.binds md e && (e.on == i || K.contains e.on)
    | none => true

theorem not_ready {i j : Nat} {K : List Nat} {L : Array Bool} (hw : waits md ops i K = true) (hL : ∀ c ∈ K, L.getD c true = false) (hi : i ∈ Region.ready md ops L) (hj : j ∈ Region.ready md ops L) : j ∉ K := by
  intro hjK
  have un : ∀ c, L.getD c true = false → L.getD c false = true → False := by
    intro c h0 h1
    rcases Nat.lt_or_ge c L.size with h' | h'
    · simp [h'] at h0 h1; rw [h0] at h1; cases h1
    · simp [Array.getElem?_eq_none h'] at h1
  obtain ⟨_, o, ho, hall⟩ := mem_ready.1 hj
  have h1 := List.all_eq_true.1 hw j hjK
  simp only [ho] at h1
  obtain ⟨e, he, hb⟩ : ∃ e, e ∈ o.after ∧ (Region.binds md e && (e.on == i || K.contains e.on)) = true := by
    obtain ⟨n, hn, hb⟩ := Array.any_eq_true.1 h1
    exact ⟨_, Array.getElem_mem hn, hb⟩
  simp only [Bool.and_eq_true, Bool.or_eq_true, beq_iff_eq, List.contains_iff_mem] at hb
  have h2 := hall e he hb.1
  rcases hb.2 with h3 | h3
  · rw [h3] at h2
    exact un _ (mem_ready.1 hi).1 h2
  · exact un _ (hL _ h3) h2

theorem anyG_first {i : Nat} {oi : Oper} {v : Value} {K : List Nat} (hi : ops[i]? = some oi) (hsel : ∀ (j : Nat) (o : Oper) cs b, ops[j]? = some o → o.op ≠ .select cs b)
    (hQ : ∀ c a w, Q (.panic c) (a.put oi.dst v) w → Q (.panic c) a w) (hk : k ∈ K) (hiK : i ∉ K) (hw : waits md ops i K = true) :
    ∀ (f : Nat) (L : Array Bool) (a : Act) (w : World),
      (∀ j oj, ops[j]? = some oj → j ≠ i → L.getD j true = false → (∀ e ∈ oj.after, Region.binds md e = true → e.on ≠ i) → oi.apart ops oj = true) →
      (∀ c ∈ K, L.getD c true = false) → i ∈ Region.ready md ops L → YieldsIf P ops S oi v a → S w →
      anyG P md ops Q S k f (L.setIfInBounds i true) (a.put oi.dst v) w → anyG P md ops Q S k (f + 1) L a w := by
  intro f
  induction f with
  | zero =>
    intro L a w _ _ hr hy hS H
    refine ⟨fun h => (by rw [h] at hr; cases hr), fun j hj => ?_⟩
    by_cases hji : j = i
    · subst hji; exact hy.wpOp hi hS ⟨fun _ => hS, H⟩
    · have := ready_mono hj hji
      rw [H.1] at this
      cases this
  | succ f ih =>
    intro L a w hfree hL hr hy hS H
    refine ⟨fun h => (by rw [h] at hr; cases hr), fun j hj => ?_⟩
    by_cases hji : j = i
    · subst hji; exact hy.wpOp hi hS ⟨fun _ => hS, H⟩
    · have hjK := not_ready hw hL hr hj
      have h1 := H.2 j (ready_mono hj hji)
      obtain ⟨hjun, oj, hoj, hall⟩ := mem_ready.1 hj
      have hnot : ∀ e ∈ oj.after, Region.binds md e = true → e.on ≠ i := fun e he hb heq => by
        have h1 := hall e he hb
        have h0 := (mem_ready.1 hr).1
        rw [heq] at h1
        rcases Nat.lt_or_ge i L.size with h' | h'
        · simp [h'] at h0 h1; rw [h0] at h1; cases h1
        · simp [Array.getElem?_eq_none h'] at h1
      have h2 := wpOp_putIf hoj (hfree j oj hoj hji hjun hnot) (fun cs b => hsel i oi cs b hi) (fun cs b => hsel j oj cs b hoj) hQ hy h1
      have hfree' : ∀ c oc, ops[c]? = some oc → c ≠ i → (L.setIfInBounds j true).getD c true = false →
          (∀ e ∈ oc.after, Region.binds md e = true → e.on ≠ i) → oi.apart ops oc = true := fun c oc hc hci hun hno => by
        refine hfree c oc hc hci ?_ hno
        by_cases hjc : j = c
        · subst hjc; exact hjun
        · rw [getD_set_ne true hjc] at hun; exact hun
      have hL' : ∀ c ∈ K, (L.setIfInBounds j true).getD c true = false := fun c hc => by
        have hne : j ≠ c := fun h => hjK (by rw [h]; exact hc)
        rw [getD_set_ne true hne]
        exact hL c hc
      refine wpOp_mono (fun a' w' h3 => ?_) h2
      have hjk : j ≠ k := fun h => hjK (by rw [h]; exact hk)
      have hik : i ≠ k := fun h => hiK (by rw [h]; exact hk)
      have hS' : S w' := h3.2.1 (by rw [getD_set_ne true hjk, getD_set_ne true hik]; exact hL k hk)
      refine ⟨fun _ => hS', ih (L.setIfInBounds j true) a' w' hfree' hL' (ready_mono hr (Ne.symm hji)) h3.1 hS' ?_⟩
      rw [Array.setIfInBounds_comm _ _ hji]
      exact h3.2.2

/-- Take i first. -/
theorem anyG_take {i : Nat} {oi : Oper} {v : Value} {f : Nat} {L : Array Bool} {a : Act} {w : World} (K : List Nat) (hi : ops[i]? = some oi)
    (hs : Region.noSelect ops = true) (hf : Region.free md ops L i = true) (hr : (Region.ready md ops L).contains i = true)
    (hK : (K.contains k && !K.contains i && waits md ops i K && K.all fun c => !L.getD c true) = true)
    (hQ : ∀ c a w, Q (.panic c) (a.put oi.dst v) w → Q (.panic c) a w) (hy : YieldsIf P ops S oi v a) (hS : S w)
    (h : anyG P md ops Q S k f (L.setIfInBounds i true) (a.put oi.dst v) w) : anyG P md ops Q S k (f + 1) L a w := by
  simp only [Bool.and_eq_true, List.contains_iff_mem, Bool.not_eq_true', List.all_eq_true] at hK
  refine anyG_first (K := K) hi (Region.noSelect_spec hs) hQ hK.1.1.1 (fun hm => ?_) hK.1.2 f L a w (Region.free_spec hi hf) hK.2 (by simpa using hr) hy hS h
  have := hK.1.1.2
  rw [List.contains_iff_mem.2 hm] at this
  cases this

/-- One alone can come up. -/
theorem anyG_one {i : Nat} {f : Nat} {L : Array Bool} {a : Act} {w : World} (hr : Region.ready md ops L = [i])
    (h : wpOp P ops Q i (fun a' w' => ((L.setIfInBounds i true).getD k true = false → S w') ∧ anyG P md ops Q S k f (L.setIfInBounds i true) a' w') a w) : anyG P md ops Q S k (f + 1) L a w :=
  ⟨fun h0 => (by rw [hr] at h0; cases h0), fun j hj => by rw [hr, List.mem_singleton] at hj; subst hj; exact h⟩

/-- An operation that is wanted; what follows is a letter. -/
theorem wpOp_at {i : Nat} {o : Oper} {a : Act} {w : World} {K : Act → World → Prop} (hi : ops[i]? = some o) (hw : Region.wanted o (yielded ops a.tmps) = true)
    (h : ∀ K' : Act → World → Prop, Hid (∀ a w, K a w → K' a w) → o.wp P a w K' Q) : wpOp P ops Q i K a w := by
  unfold wpOp
  simp only [hi, hw, if_true]
  exact .inl (h K (hide fun _ _ h => h))

theorem anyG_done {L : Array Bool} {a : Act} {w : World} (hr : Region.ready md ops L = []) (h : Q .normal a w) : ∀ f, anyG P md ops Q S k f L a w
  | 0 => ⟨hr, h⟩
  | _ + 1 => ⟨fun _ => h, by rw [hr]; simp⟩

theorem wp_region_G {id : Nat} {a : Act} {w : World} (hm : P.follows .mixedOrders = true)
    (h : anyG P .any ops Q S k ops.size (Array.replicate ops.size false) a { w with drawn := w.drawn + 1 }) : (Code.region id ops true).wp P Q a w :=
  wp_region_any hm (any_of_G _ _ _ _ h)
theorem anyG_many {f : Nat} {L : Array Bool} {a : Act} {w : World} (l : List Nat) (hr : Region.ready md ops L = l) (hl : l ≠ [])
    (h : ∀ i ∈ l, wpOp P ops Q i (fun a' w' => ((L.setIfInBounds i true).getD k true = false → S w') ∧ anyG P md ops Q S k f (L.setIfInBounds i true) a' w') a w) : anyG P md ops Q S k (f + 1) L a w :=
  ⟨fun h0 => absurd (hr.symm.trans h0) hl, fun j hj => h j (by rw [← hr]; exact hj)⟩
theorem drop_at {α : Type} {l : Array α} {i : Nat} {o : α} {r : List α} (h : l.toList.drop i = o :: r) : l[i]? = some o := by
  have h1 : (l.toList.drop i)[0]? = some o := by rw [h]; rfl
  rw [List.getElem?_drop] at h1
  simpa using h1
theorem wpOp_lit {i : Nat} {o : Oper} {r : List Oper} {a : Act} {w : World} {K : Act → World → Prop} (hi : ops.toList.drop i = o :: r) (hw : Region.wanted o (yielded ops a.tmps) = true)
    (h : ∀ K' : Act → World → Prop, Hid (∀ a w, K a w → K' a w) → o.wp P a w K' Q) : wpOp P ops Q i K a w := wpOp_at (drop_at hi) hw h
theorem anyG_takel {i : Nat} {oi : Oper} {r : List Oper} {v : Value} {f : Nat} {L : Array Bool} {a : Act} {w : World} (K : List Nat) (hi : ops.toList.drop i = oi :: r)
    (hs : Region.noSelect ops = true) (hf : Region.free md ops L i = true) (hr : (Region.ready md ops L).contains i = true)
    (hK : (K.contains k && !K.contains i && waits md ops i K && K.all fun c => !L.getD c true) = true)
    (hQ : ∀ c a w, Q (.panic c) (a.put oi.dst v) w → Q (.panic c) a w) (hy : YieldsIf P ops S oi v a) (hS : S w)
    (h : anyG P md ops Q S k f (L.setIfInBounds i true) (a.put oi.dst v) w) : anyG P md ops Q S k (f + 1) L a w := anyG_take K (drop_at hi) hs hf hr hK hQ hy hS h
end
end Go.Proofs.YtjnggnhgambmkaaGreat

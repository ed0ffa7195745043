import Derived.Test.YtmagpdblacgneaaGreatRmG
import Derived.Test.YtmagpdblacgneaaGreatPuC
set_option linter.unusedSimpArgs false
set_option linter.unusedVariables false
namespace Go.Proofs.YtmagpdblacgneaaGreat
open Go.RowKit Go.Sort

def andE (x y : Ex) : Ex := .mk 19 0 .null [x, y]
/-- All of them as one. -/
def allX : List Ex → Ex
  | [] => .mk 2 0 (.num 1) []
  | x :: l => l.foldl (fun acc y => andE acc (copyE y)) (copyE x)
/-- What All answers. -/
def APost (by_ : List Ex) (w : World) (r : Ending) (w' : World) : Prop := ∃ a2 c2, r = .returned ((allX by_).val a2 c2) ∧ ExK w.heap.size w' a2 c2 (allX by_).args ∧ Below w.heap.size w w'
/-- What lies in the blocks from lo on, but lo itself and b. -/
def KA (lo b : Nat) (w : World) (a : Option Addr) (c : Nat) (l : List Ex) : Prop := ∃ F, Ow w l a c F ∧ ∀ q, F q → lo < q ∧ q ≠ b ∧ q < w.heap.size
theorem KA.of_k {lo lo' b c : Nat} {w w' : World} {a : Option Addr} {l : List Ex} (h : ExK lo' w a c l) (hb : Below w.heap.size w w') (h1 : lo < lo') (h2 : lo' ≤ b) (h3 : w.heap.size ≤ b) : KA lo b w' a c l := by
  obtain ⟨F, hF, hFb⟩ := h
  have hs := hb.size
  exact ⟨F, hF.keep fun q hq => hb.block q (hFb q hq).2, fun q hq => by have := hFb q hq; exact ⟨by omega, by omega, by omega⟩⟩
theorem set6_block (w : World) (b : Nat) (u0 u1 u2 u3 u4 u5 : Value) (q : Nat) (h : q ≠ b) : ((((((w.setCell ⟨b, 0, none⟩ u0).setCell ⟨b, 1, none⟩ u1).setCell ⟨b, 2, none⟩ u2).setCell ⟨b, 3, none⟩ u3).setCell ⟨b, 4, none⟩ u4).setCell ⟨b, 5, none⟩ u5).heap[q]? = w.heap[q]? := by
  rw [Below.heap_setCell _ _ _ _ h, Below.heap_setCell _ _ _ _ h, Below.heap_setCell _ _ _ _ h, Below.heap_setCell _ _ _ _ h, Below.heap_setCell _ _ _ _ h, Below.heap_setCell _ _ _ _ h]
theorem set6_size (w : World) (b : Nat) (u0 u1 u2 u3 u4 u5 : Value) : ((((((w.setCell ⟨b, 0, none⟩ u0).setCell ⟨b, 1, none⟩ u1).setCell ⟨b, 2, none⟩ u2).setCell ⟨b, 3, none⟩ u3).setCell ⟨b, 4, none⟩ u4).setCell ⟨b, 5, none⟩ u5).heap.size = w.heap.size := by
  simp only [World.setCell]
  simp
theorem KA.fin {lo b c : Nat} {w : World} {a : Option Addr} {l : List Ex} (h : KA lo b w a c l) (u0 u1 u2 u3 u4 u5 : Value) : ExK lo ((((((w.setCell ⟨lo, 0, none⟩ u0).setCell ⟨lo, 1, none⟩ u1).setCell ⟨lo, 2, none⟩ u2).setCell ⟨lo, 3, none⟩ u3).setCell ⟨lo, 4, none⟩ u4).setCell ⟨lo, 5, none⟩ u5) a c l := by
  obtain ⟨F, hF, hFb⟩ := h
  exact ⟨F, hF.keep fun q hq => set6_block _ _ _ _ _ _ _ _ q (by have := hFb q hq; omega), fun q hq => by have := hFb q hq; rw [set6_size]; exact ⟨by omega, by omega⟩⟩
/-- Two nodes in a new block. -/
abbrev two (p q : Nd) : Obj := .cells #[.int .i64 p.1.op, .int .i64 p.1.n, .int .i64 p.1.v.k, .int .i64 p.1.v.n, .string p.1.v.s, .slice p.2.1 p.1.args.length p.2.2, .int .i64 q.1.op, .int .i64 q.1.n, .int .i64 q.1.v.k, .int .i64 q.1.v.n, .string q.1.v.s, .slice q.2.1 q.1.args.length q.2.2] 26
theorem own_two (w : World) (base : Nat) (hb : base ≤ w.heap.size) (p q : Nd) : OwnE (w.alloc (two p q)) base (.slice (some ⟨w.heap.size, 0, none⟩) 2 2) [p, q] :=
  ⟨rfl, .inr ⟨w.heap.size, 2, _, rfl, hb, Go.Deep.blk_alloc_new _ _, Nat.le_refl _, by unfold maxLen; omega, rfl, rfl⟩⟩
theorem KA.step {lo b3 L3 : Nat} {wr w3 : World} {acc y : Ex} {a2 a3 : Option Addr} {c2 c3 : Nat} (hKA : KA lo b3 wr a2 c2 acc.args) (hb : Below wr.heap.size wr w3) (h3 : ExK L3 w3 a3 c3 y.args) (h1 : lo < b3) (h2 : b3 < wr.heap.size) (hL : wr.heap.size ≤ L3) (u0 u1 u2 u3 u4 u5 : Value) :
    KA lo b3 (((((((w3.alloc (two (acc, a2, c2) (y, a3, c3))).setCell ⟨b3, 0, none⟩ u0).setCell ⟨b3, 1, none⟩ u1).setCell ⟨b3, 2, none⟩ u2).setCell ⟨b3, 3, none⟩ u3).setCell ⟨b3, 4, none⟩ u4).setCell ⟨b3, 5, none⟩ u5) (some ⟨w3.heap.size, 0, none⟩) 2 [acc, y] := by
  obtain ⟨F1, hF1, hB1⟩ := hKA
  obtain ⟨F2, hF2, hB2⟩ := h3
  have hs := hb.size
  have hsz : (w3.alloc (two (acc, a2, c2) (y, a3, c3))).heap.size = w3.heap.size + 1 := by simp [go_sem]
  have e2 : ∀ j, j < w3.heap.size → (w3.alloc (two (acc, a2, c2) (y, a3, c3))).heap[j]? = w3.heap[j]? := fun j hj => (below_alloc (Below.refl _ w3) _).block j hj
  have hw := own_two w3 w3.heap.size (Nat.le_refl _) (acc, a2, c2) (y, a3, c3)
  refine ⟨fun q => q = w3.heap.size ∨ F1 q ∨ F2 q, Ow.row (L := [(acc, a2, c2), (y, a3, c3)]) (K := fun i q => (i = 0 ∧ F1 q) ∨ (i = 1 ∧ F2 q)) ?_ (fun i q hq => ?_) (fun i q b _ hb => ?_) (fun i j b hij hi hj => ?_) (.inl rfl), fun q hq => ?_⟩
  · exact own_keepE hw fun g hg => by
      simp only [Value.ownBlock, Option.some.injEq] at hg
      subst hg
      exact set6_block _ _ _ _ _ _ _ _ _ (by omega)
  · match i, hq with
    | 0, hq =>
      simp only [List.getElem?_cons_zero, Option.some.injEq] at hq
      subst hq
      exact (hF1.keep fun q hq => by have := hB1 q hq; rw [set6_block _ _ _ _ _ _ _ _ q this.2.1, e2 q (by omega), hb.block q this.2.2]).wide fun q hq => .inl ⟨rfl, hq⟩
    | 1, hq =>
      simp only [List.getElem?_cons_succ, List.getElem?_cons_zero, Option.some.injEq] at hq
      subst hq
      exact (hF2.keep fun q hq => by have := hB2 q hq; rw [set6_block _ _ _ _ _ _ _ _ q (by omega), e2 q this.2]).wide fun q hq => .inr ⟨rfl, hq⟩
    | i + 2, hq => simp at hq
  · rcases hb with ⟨_, hb⟩ | ⟨_, hb⟩
    · have := hB1 b hb; exact ⟨by omega, .inr (.inl hb)⟩
    · have := hB2 b hb; exact ⟨by omega, .inr (.inr hb)⟩
  · rcases hi with ⟨e1, hi⟩ | ⟨e1, hi⟩ <;> rcases hj with ⟨e2, hj⟩ | ⟨e2, hj⟩
    · omega
    · have := hB1 b hi; have := hB2 b hj; omega
    · have := hB2 b hi; have := hB1 b hj; omega
    · omega
  · rw [set6_size, hsz]
    rcases hq with rfl | hq | hq
    · exact ⟨by omega, by omega, by omega⟩
    · have := hB1 q hq; exact ⟨by omega, by omega, by omega⟩
    · have := hB2 q hq; exact ⟨by omega, by omega, by omega⟩
theorem box6_store {w : World} {b : Nat} {e : Ex} {a : Option Addr} {c : Nat} (h : Box6 w b e a c) (f : Ex) (a' : Option Addr) (c' : Nat) :
    Box6 ((((((w.setCell ⟨b, 0, none⟩ (.int .i64 f.op)).setCell ⟨b, 1, none⟩ (.int .i64 f.n)).setCell ⟨b, 2, none⟩ (.int .i64 f.v.k)).setCell ⟨b, 3, none⟩ (.int .i64 f.v.n)).setCell ⟨b, 4, none⟩ (.string f.v.s)).setCell ⟨b, 5, none⟩ (.slice a' f.args.length c')) b f a' c' := by
  obtain ⟨⟨z0, z1, z2, z3, z4, z5⟩, f0, f1, f2, f3, f4, f5⟩ := h
  refine ⟨⟨?_, ?_, ?_, ?_, ?_, ?_⟩, ?_, ?_, ?_, ?_, ?_, ?_⟩
  all_goals first
    | (simp only [frozen_set]; assumption)
    | (simp [go_sem, z0, z1, z2, z3, z4, z5])
theorem box6_other {w : World} {b g : Nat} {e : Ex} {a : Option Addr} {c : Nat} (h : Box6 w b e a c) (hg : b ≠ g) (u0 u1 u2 u3 u4 u5 : Value) :
    Box6 ((((((w.setCell ⟨g, 0, none⟩ u0).setCell ⟨g, 1, none⟩ u1).setCell ⟨g, 2, none⟩ u2).setCell ⟨g, 3, none⟩ u3).setCell ⟨g, 4, none⟩ u4).setCell ⟨g, 5, none⟩ u5) b e a c :=
  box_put (box_put (box_put (box_put (box_put (box_put h _ _ _ hg) _ _ _ hg) _ _ _ hg) _ _ _ hg) _ _ _ hg) _ _ _ hg
/-- While they are joined. -/
def ALoop (x : Ex) (l : List Ex) (w : World) (b3 : Nat) (i : Value) (wr : World) : Prop := ∃ (k : Nat) (acc : Ex) (a2 : Option Addr) (c2 : Nat), k ≤ l.length ∧ i = .int .i64 (k : Int) ∧ Hid (Box6 wr b3 acc a2 c2) ∧ Hid (KA w.heap.size b3 wr a2 c2 acc.args) ∧ Hid (acc = (l.take k).foldl (fun acc y => andE acc (copyE y)) (copyE x)) ∧ Hid (Below w.heap.size w wr) ∧ Hid (Box6 wr w.heap.size zeroE none 0) ∧ b3 < wr.heap.size
set_option maxHeartbeats 2000000 in
set_option maxRecDepth 100000 in
/-- All (12). -/
theorem all12_any (by_ : List Ex) (aB : Option Addr) (cB : Nat) (w : World) (hcB : by_.length ≤ cB) (hlB : by_.length ≤ 1000000) (hA : Ex.all w aB by_) (HCX : ∀ x ∈ by_, ∀ (a : Option Addr) (c : Nat) (W : World), Ex.all W a x.args → Calls Tryz.prog 22 #[x.val a c] W (NPost x W)) :
    Calls Tryz.prog 7 #[.slice aB by_.length cB] w (APost by_ w) := by
  have HZ : Hid (Box6 (w.alloc (.cells #[.int .i64 0, .int .i64 0, .int .i64 0, .int .i64 0, .string ⟨#[]⟩, .slice none 0 0] 26)) w.heap.size zeroE none 0) := Box6.new w zeroE none 0
  have HB0 := hide (below_alloc (Below.refl _ w) (.cells #[.int .i64 0, .int .i64 0, .int .i64 0, .int .i64 0, .string ⟨#[]⟩, .slice none 0 0] 26))
  cases by_ with
  | nil =>
    have HE := hide (fun W => constant_any (.num 1) W)
    rw [Val.open_, Ex.val_open] at HE
    clear hA HCX hcB hlB
    rw [List.length_nil]
    go_enter Tryz.func7, Tryz.ntmps7
    go_wp2_with (go_at_call 25; refine (unhide HE _).mono ?_; rintro r w1 ⟨rfl, hb1⟩; obtain ⟨⟨z0, z1, z2, z3, z4, z5⟩, f0, f1, f2, f3, f4, f5⟩ := (unhide HZ).later hb1)
    refine bodyPost_ret (v := (allX []).val none 0) (by simp [results, Tryz.results7, go_sem, Ex.val, Ex.op, Ex.n, Ex.v, Ex.args, Val.num, allX, *]) rfl ⟨none, 0, rfl, ExK.nil _ _, ?_⟩
    exact put6 (below_step (unhide HB0) hb1) (by omega) _ _ _ _ _ _
  | cons x l =>
    obtain ⟨b, off, rfl, hat, hrest⟩ : ∃ b off, aB = some ⟨b, off, none⟩ ∧ Ex.at w b off x ∧ Ex.all w (some ⟨b, off + 6, none⟩) l := by rw [Ex.all] at hA; exact hA
    rw [List.length_cons] at hcB hlB ⊢
    obtain ⟨n, hn⟩ : ∃ n : Nat, n = l.length := ⟨_, rfl⟩
    have HR : ∃ o1, (cB = 1 ∧ o1 = off ∨ ¬ cB = 1 ∧ o1 = off + 6) ∧ Hid (∀ W, Below w.heap.size w W → Ex.all W (some ⟨b, o1, none⟩) l) := by
      by_cases h1 : cB = 1
      · refine ⟨off, .inl ⟨h1, rfl⟩, fun W hW => ?_⟩
        have : l = [] := List.eq_nil_of_length_eq_zero (by omega)
        subst this; rw [Ex.all]; trivial
      · exact ⟨off + 6, .inr ⟨h1, rfl⟩, fun W hW => Ex.all_later _ hrest hW⟩
    obtain ⟨a', c', ⟨d0, d1, d2, d3, d4, d5⟩, hal⟩ := Ex.at_open (Ex.at_later x hat (unhide HB0))
    have HX := hide (HCX x (by simp) a' c' _ hal)
    rw [Ex.val_open] at HX
    have HIH := hide (fun (y : Ex) (hy : y ∈ l) => HCX y (by simp [hy]))
    clear hA hat hrest hal HCX
    rw [← hn] at hcB hlB ⊢
    have HN := hide hn
    clear hn
    have hc1 : 1 ≤ cB := by omega
    have hc2 : (1 : Int) ≤ (cB : Int) := by omega
    go_enter Tryz.func7, Tryz.ntmps7
    go_upto_region 4 with (go_at_call 22; refine (unhide HX).mono ?_; rintro r w1 ⟨a2, c2, rfl, hK1, hb1⟩; rw [Ex.val_open])
    have hb01 := below_step (unhide HB0) hb1
    have hs0 : (w.alloc (.cells #[.int .i64 0, .int .i64 0, .int .i64 0, .int .i64 0, .string ⟨#[]⟩, .slice none 0 0] 26)).heap.size = w.heap.size + 1 := by simp [go_sem]
    have hs1 := hb1.size
    rw [hs0] at hs1 hK1
    obtain ⟨b3, hb3⟩ : ∃ b3, b3 = w1.heap.size := ⟨_, rfl⟩
    refine enter_with (fun wx => ALoop x l w b3 (.int .i64 (0 : Int)) wx) ?_ ?_
    · refine ⟨0, copyE x, a2, c2, Nat.zero_le _, rfl, by rw [hb3]; exact Box6.new w1 (copyE x) a2 c2, ?_, rfl, below_alloc hb01 _, ((unhide HZ).later hb1).later (below_alloc (Below.refl _ _) _), by rw [hb3]; simp [go_sem]⟩
      exact KA.of_k hK1 (below_alloc (Below.refl _ _) _) (by omega) (by omega) (by omega)
    intro wx HWX
    rw [← hb3]
    have hb3s : w.heap.size < b3 := by omega
    clear hb01 hb1 hK1 hs0 hs1 hb3 d0 d1 d2 d3 d4 d5 HX HZ HB0
    obtain ⟨o1, hc, HR⟩ := HR
    rcases hc with ⟨h1, rfl⟩ | ⟨h1, rfl⟩
    · go_upto_region 5 with fail
      go_loopw [18] (fun i wr => ALoop x l w b3 i wr) (fun i _ => n - (intOf i).toNat)
      case atStart => exact unhide HWX
      case round =>
        obtain ⟨k, acc, a2, c2, hk, rfl, HBX, HKA, HAC, HB, HZR, hsr⟩ := hrel
        rw [← unhide HN] at hk
        by_cases hlt : k < n
        · exfalso; omega
        · have h9 : ¬ (k : Int) < (n : Int) := by omega
          obtain rfl : k = n := by omega
          have HE : Hid (allX (x :: l) = acc) := by
            have h := unhide HAC
            rw [unhide HN, List.take_length] at h
            exact h.symm
          obtain ⟨⟨z0, z1, z2, z3, z4, z5⟩, f0, f1, f2, f3, f4, f5⟩ := unhide HZR
          obtain ⟨⟨y0, y1, y2, y3, y4, y5⟩, g0, g1, g2, g3, g4, g5⟩ := unhide HBX
          have hE := put6 (unhide HB) (Nat.le_refl w.heap.size) (.int .i64 acc.op) (.int .i64 acc.n) (.int .i64 acc.v.k) (.int .i64 acc.v.n) (.string acc.v.s) (.slice a2 acc.args.length c2)
          have HEE := hide hE
          clear HAC hE
          go_wp2
          refine bodyPost_ret (v := acc.val a2 c2) (by simp [results, Tryz.results7, go_sem, Ex.val, *]) rfl ⟨a2, c2, by rw [unhide HE], ?_, unhide HEE⟩
          rw [unhide HE]
          exact (unhide HKA).fin _ _ _ _ _ _
    · go_upto_region 5 with fail
      go_loopw [18] (fun i wr => ALoop x l w b3 i wr) (fun i _ => n - (intOf i).toNat)
      case atStart => exact unhide HWX
      case round =>
        obtain ⟨k, acc, a2, c2, hk, rfl, HBX, HKA, HAC, HB, HZR, hsr⟩ := hrel
        rw [← unhide HN] at hk
        by_cases hlt : k < n
        · have h9 : (k : Int) < (n : Int) := by omega
          obtain ⟨y, hy⟩ : ∃ y, l[k]? = some y := ⟨_, List.getElem?_eq_getElem (by rw [← unhide HN]; exact hlt)⟩
          obtain ⟨vb, vo, ea, hat⟩ := Ex.all_get (unhide HR wr (unhide HB)) hy
          simp only [Option.some.injEq, Addr.mk.injEq, and_true] at ea
          obtain ⟨rfl, rfl⟩ := ea
          obtain ⟨a', c', ⟨d0, d1, d2, d3, d4, d5⟩, hal⟩ := Ex.at_open hat
          obtain ⟨W1, hW1⟩ : ∃ W1, W1 = wr.alloc (.cells #[.int .i64 y.op, .int .i64 y.n, .int .i64 y.v.k, .int .i64 y.v.n, .string y.v.s, .slice a' y.args.length c'] 26) := ⟨_, rfl⟩
          have HB1 : Hid (Below wr.heap.size wr W1) := by rw [hW1]; exact below_alloc (Below.refl _ _) _
          have hs1 : W1.heap.size = wr.heap.size + 1 := by rw [hW1]; simp [go_sem]
          have H1 : Hid (Six W1 wr.heap.size y a' c') := by rw [hW1]; exact Six.new wr y a' c'
          have HC := hide (fun (W : World) (hW : Below W1.heap.size W1 W) => unhide HIH y (List.mem_of_getElem? hy) a' c' W (Ex.all_later _ hal (below_step (unhide HB1) hW)))
          rw [Ex.val_open] at HC
          have HY := hide hy
          clear hy hat hal
          go_upto_region 7 with fail
          rw [← hW1]
          have HW1 := hide hW1
          have HX1 := hide ((unhide HBX).later (unhide HB1))
          have HZ1 := hide ((unhide HZR).later (unhide HB1))
          clear hW1 d0 d1 d2 d3 d4 d5
          have HS0 := hide ((Below.refl W1.heap.size W1).drew)
          refine wp_region_noPanic ?_
          refine wp_region_G (S := fun w' : World => Below W1.heap.size W1 w') (k := 3) (by kernel_rfl) ?_
          refine anyG_takel (i := 0) (v := .agg #[.int .i64 acc.op, .int .i64 acc.n, .int .i64 acc.v.k, .int .i64 acc.v.n, .string acc.v.s, .slice a2 acc.args.length c2]) [3] rfl (by kernel_rfl) (by kernel_rfl) (by kernel_rfl) (by kernel_rfl) (fun _ _ _ h => h) (Or.inl ⟨by rfl, fun w' hSw => ?_⟩) (unhide HS0) ?_
          · obtain ⟨e0, e1, e2, e3, e4, e5⟩ := ((unhide HX1).later hSw).1
            go_simp
          try simp only [Act.put, List.setIfInBounds_toArray, List.set_cons_zero, List.set_cons_succ]
          refine anyG_takel (i := 1) (v := .agg #[.int .i64 y.op, .int .i64 y.n, .int .i64 y.v.k, .int .i64 y.v.n, .string y.v.s, .slice a' y.args.length c']) [2, 3] rfl (by kernel_rfl) (by kernel_rfl) (by kernel_rfl) (by kernel_rfl) (fun _ _ _ h => h) (Or.inl ⟨by rfl, fun w' hSw => ?_⟩) (unhide HS0) ?_
          · obtain ⟨e0, e1, e2, e3, e4, e5⟩ := (unhide H1).later hSw
            go_simp
          try simp only [Act.put, List.setIfInBounds_toArray, List.set_cons_zero, List.set_cons_succ]
          refine anyG_one (i := 2) (by kernel_rfl) ?_
          refine wpOp_lit rfl (by rfl) fun K' hK' => ?_
          go_simp
          refine (unhide HC _ (unhide HS0)).mono ?_
          rintro r w3 ⟨a3, c3, rfl, hK3, hb3⟩
          go_simp
          have hS3 : Below W1.heap.size W1 w3 := below_step (unhide HS0) hb3
          refine unhide hK' _ _ ⟨fun _ => hS3, ?_⟩
          clear hK' K'
          rw [Ex.val_open]
          refine anyG_one (i := 3) (by kernel_rfl) ?_
          refine wpOp_lit rfl (by rfl) fun K' hK' => ?_
          go_simp
          refine unhide hK' _ _ ⟨fun hh => absurd hh (by decide), ?_⟩
          clear hK' K'
          obtain ⟨w4, hw4⟩ : ∃ w4, w4 = w3.alloc (two (acc, a2, c2) (copyE y, a3, c3)) := ⟨_, rfl⟩
          have HB4 : Hid (Below W1.heap.size W1 w4) := by rw [hw4]; exact below_alloc hS3 _
          rw [show (w3.alloc (.cells #[.int .i64 acc.op, .int .i64 acc.n, .int .i64 acc.v.k, .int .i64 acc.v.n, .string acc.v.s, .slice a2 acc.args.length c2, .int .i64 (copyE y).op, .int .i64 (copyE y).n, .int .i64 (copyE y).v.k, .int .i64 (copyE y).v.n, .string (copyE y).v.s, .slice a3 (copyE y).args.length c3] 26)) = w4 from hw4.symm]
          have HW4 := hide hw4
          clear hw4
          refine anyG_one (i := 4) (by kernel_rfl) ?_
          refine wpOp_lit rfl (by rfl) fun K' hK' => ?_
          go_simp
          refine unhide hK' _ _ ⟨fun hh => absurd hh (by decide), ?_⟩
          clear hK' K'
          have HX4 := hide ((unhide HX1).later (unhide HB4))
          have HZ4 := hide ((unhide HZ1).later (unhide HB4))
          obtain ⟨⟨z0, z1, z2, z3, z4, z5⟩, f0, f1, f2, f3, f4, f5⟩ := unhide HX4
          refine anyG_one (i := 5) (by kernel_rfl) ?_
          refine wpOp_lit rfl (by rfl) fun K' hK' => ?_
          go_simp
          refine unhide hK' _ _ ⟨fun hh => absurd hh (by decide), ?_⟩
          clear hK' K' z0 z1 z2 z3 z4 z5 f0 f1 f2 f3 f4 f5
          refine anyG_done (by kernel_rfl) ?_ _
          refine NoPanic.normal ?_
          go_wp2
          have hsw := hS3.size
          refine ⟨⟨k + 1, andE acc (copyE y), some ⟨w3.heap.size, 0, none⟩, 2, by rw [← unhide HN]; omega, by go_num, box6_store (unhide HX4) (andE acc (copyE y)) _ _, ?_, ?_, ?_, ?_, ?_⟩, by simp [intOf]; omega⟩
          · rw [unhide HW4]
            exact (unhide HKA).step (below_step (unhide HB1) hS3) hK3 hb3s hsr (by show wr.heap.size ≤ W1.heap.size; omega) _ _ _ _ _ _
          · show _ = _
            rw [List.take_add_one, unhide HY, List.foldl_append, ← unhide HAC]
            rfl
          · exact put6 (below_step (unhide HB) (below_step (unhide HB1) (unhide HB4))) (by omega) _ _ _ _ _ _
          · exact box6_other (unhide HZ4) (by omega) _ _ _ _ _ _
          · have := (unhide HB4).size
            simp only [World.setCell]
            simp
            omega
        · have h9 : ¬ (k : Int) < (n : Int) := by omega
          obtain rfl : k = n := by omega
          have HE : Hid (allX (x :: l) = acc) := by
            have h := unhide HAC
            rw [unhide HN, List.take_length] at h
            exact h.symm
          obtain ⟨⟨z0, z1, z2, z3, z4, z5⟩, f0, f1, f2, f3, f4, f5⟩ := unhide HZR
          obtain ⟨⟨y0, y1, y2, y3, y4, y5⟩, g0, g1, g2, g3, g4, g5⟩ := unhide HBX
          have hE := put6 (unhide HB) (Nat.le_refl w.heap.size) (.int .i64 acc.op) (.int .i64 acc.n) (.int .i64 acc.v.k) (.int .i64 acc.v.n) (.string acc.v.s) (.slice a2 acc.args.length c2)
          have HEE := hide hE
          clear HAC hE
          go_wp2
          refine bodyPost_ret (v := acc.val a2 c2) (by simp [results, Tryz.results7, go_sem, Ex.val, *]) rfl ⟨a2, c2, by rw [unhide HE], ?_, unhide HEE⟩
          rw [unhide HE]
          exact (unhide HKA).fin _ _ _ _ _ _
end Go.Proofs.YtmagpdblacgneaaGreat

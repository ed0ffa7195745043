import Derived.Test.YtfnacpkodfhfoacRmG
import Derived.Test.YtfnacpkodfhfoacPuD
set_option linter.unusedSimpArgs false
set_option linter.unusedVariables false
namespace Go.Proofs.Ytfnacpkodfhfoac
open Go.RowKit Go.Sort

def F31 (B D : Nat) : Value := .func (.func 31) #[] #[.pointer (some ⟨B, 0, none⟩), .pointer (some ⟨D, 0, none⟩)]
/-- What the walk of the document's Put captures. -/
structure Cx (by_ : List Ex) (B D : Nat) (aB : Option Addr) (cB : Nat) (w : World) : Prop where
  b : Box1 w B (.slice aB by_.length cB)
  d : Box1 w D (F31 B D)
  all : Ex.all w aB by_
theorem Cx.later {by_ : List Ex} {B D : Nat} {aB : Option Addr} {cB : Nat} {w w' : World} (h : Cx by_ B D aB cB w) (hb : Below w.heap.size w w') : Cx by_ B D aB cB w' := ⟨h.b.later hb, h.d.later hb, Ex.all_later _ h.all hb⟩
/-- What it answers. -/
def PP (p : Ex → Ex) (e : Ex) (w : World) (r : Ending) (w' : World) : Prop := ∃ a2 c2, r = .returned ((p e).val a2 c2) ∧ ExK w.heap.size w' a2 (p e).args ∧ Below w.heap.size w w'
abbrev PPost (by_ : List Ex) := PP (madeE (putG by_))
theorem put_node {by_ : List Ex} {e : Ex} (h1 : ¬ e.op = 1) : madeE (putG by_) e = .mk (needE e).op (needE e).n (needE e).v (e.args.map (madeE (putG by_))) := by
  rw [madeE_eq, putG_no (show ¬ (nodeG (putG by_) e).op = 1 from h1)]
  rfl
theorem put_leaf {by_ : List Ex} {e : Ex} {n : Nat} (h1 : e.op = 1) (hn : e.n = n) (hlt : n < by_.length) (hb : ∀ x ∈ by_, builtE x = true) : ∃ x, by_[n]? = some x ∧ madeE (putG by_) e = copyE x := by
  have ho : (nodeG (putG by_) e).op = 1 := h1
  have hnn : (nodeG (putG by_) e).n = e.n := by show (if e.op == 1 then e.n else 0) = e.n; rw [h1]; rfl
  have hg2 : by_[n]? = some (by_.getD n (nodeG (putG by_) e)) := getD_at hlt
  have hp : putG by_ (nodeG (putG by_) e) = copyT (by_.getD n (nodeG (putG by_) e)) := by rw [putG_col ho, hnn, hn]; rfl
  exact ⟨_, hg2, by rw [madeE_eq, hp, built_copyT (hb _ (List.mem_of_getElem? hg2))]⟩
/-- While its parts are made. -/
def PLoop (p : Ex → Ex) (e : Ex) (a : Option Addr) (c : Nat) (w : World) (i : Value) (wr : World) : Prop := ∃ (k : Nat) (v : Value) (L : List Nd), k ≤ e.args.length ∧ i = .int .i64 (k : Int) ∧ Hid (Fr w.heap.size e a c v wr) ∧ Hid (NInv (w.heap.size + 3) v L wr) ∧ Hid (L.map (·.1) = (e.args.take k).map p) ∧ Hid (Below w.heap.size w wr) ∧ w.heap.size + 3 ≤ wr.heap.size
set_option maxHeartbeats 1000000 in
set_option maxRecDepth 100000 in
theorem put31_col (by_ : List Ex) (hb : ∀ x ∈ by_, builtE x = true) (hbl : by_.length ≤ 140737488355328) (B D : Nat) (aB : Option Addr) (cB : Nat) (e : Ex) (h1 : e.op = 1) (h0 : 0 ≤ e.n) (hlt : e.n < by_.length) (a : Option Addr) (c : Nat) (w : World) (hC : Cx by_ B D aB cB w) :
    Calls Try.prog 31 #[e.val a c, .pointer (some ⟨B, 0, none⟩), .pointer (some ⟨D, 0, none⟩)] w (PPost by_ e w) := by
  have HB0 : Hid (Below w.heap.size w ((w.alloc (.cells #[.int .i64 e.op, .int .i64 e.n, .int .i64 e.v.k, .int .i64 e.v.n, .string e.v.s, .slice a e.args.length c] 26)).alloc (.cells #[.int .i64 0, .int .i64 0, .int .i64 0, .int .i64 0, .string ⟨#[]⟩, .slice none 0 0] 26))) := below_alloc (below_alloc (Below.refl _ w) _) _
  have HZ : Hid (Box6 ((w.alloc (.cells #[.int .i64 e.op, .int .i64 e.n, .int .i64 e.v.k, .int .i64 e.v.n, .string e.v.s, .slice a e.args.length c] 26)).alloc (.cells #[.int .i64 0, .int .i64 0, .int .i64 0, .int .i64 0, .string ⟨#[]⟩, .slice none 0 0] 26)) (w.heap.size + 1) zeroE none 0) := by
    have h := Box6.new (w.alloc (.cells #[.int .i64 e.op, .int .i64 e.n, .int .i64 e.v.k, .int .i64 e.v.n, .string e.v.s, .slice a e.args.length c] 26)) zeroE none 0
    rw [show (w.alloc (.cells #[.int .i64 e.op, .int .i64 e.n, .int .i64 e.v.k, .int .i64 e.v.n, .string e.v.s, .slice a e.args.length c] 26)).heap.size = w.heap.size + 1 by simp [go_sem]] at h
    exact h
  have hbx : ((w.alloc (.cells #[.int .i64 e.op, .int .i64 e.n, .int .i64 e.v.k, .int .i64 e.v.n, .string e.v.s, .slice a e.args.length c] 26)).alloc (.cells #[.int .i64 0, .int .i64 0, .int .i64 0, .int .i64 0, .string ⟨#[]⟩, .slice none 0 0] 26)).cell? ⟨B, 0, none⟩ = some (.slice aB by_.length cB) := clater hC.b (unhide HB0)
  rw [Ex.val_open]
  obtain ⟨n, hn⟩ : ∃ n : Nat, e.n = n := ⟨e.n.toNat, by omega⟩
  obtain ⟨x, hx, hp⟩ := put_leaf (by_ := by_) h1 hn (by omega) hb
  obtain ⟨vb, vo, rfl, hat⟩ := Ex.all_get (Ex.all_later _ hC.all (unhide HB0)) hx
  obtain ⟨a', c', ⟨d0, d1, d2, d3, d4, d5⟩, hal⟩ := Ex.at_open hat
  have HC := hide (neat_any x (meas_short soundE x 400 40 (by omega) (hb x (List.mem_of_getElem? hx))) a' c' _ hal)
  have HV := hide hp
  have hs2 : ((w.alloc (.cells #[.int .i64 e.op, .int .i64 e.n, .int .i64 e.v.k, .int .i64 e.v.n, .string e.v.s, .slice a e.args.length c] 26)).alloc (.cells #[.int .i64 0, .int .i64 0, .int .i64 0, .int .i64 0, .string ⟨#[]⟩, .slice none 0 0] 26)).heap.size = w.heap.size + 2 := by simp [go_sem]
  have HS2 := hide hs2
  rw [Ex.val_open] at HC
  rw [h1, hn] at HB0 HZ HC HS2 hbx d0 d1 d2 d3 d4 d5 ⊢
  have h8 : (n : Int) < (by_.length : Int) := by omega
  clear hx hp hat hal h0 hlt hC hs2
  go_enter Try.func31, Try.ntmps31
  go_wp2_with (go_at_call 32; refine (unhide HC).mono ?_; rintro r w2 ⟨a2, c2, rfl, hK2, hb2⟩; have HK2 := hide hK2; obtain ⟨⟨z0, z1, z2, z3, z4, z5⟩, f0, f1, f2, f3, f4, f5⟩ := (unhide HZ).later hb2; rw [Ex.val_open])
  have hE := put6 (below_step (unhide HB0) hb2) (B := w.heap.size + 1) (by omega) (.int .i64 (copyE x).op) (.int .i64 (copyE x).n) (.int .i64 (copyE x).v.k) (.int .i64 (copyE x).v.n) (.string (copyE x).v.s) (.slice a2 (copyE x).args.length c2)
  have hs3 := unhide HS2
  refine bodyPost_ret (v := (copyE x).val a2 c2) (by simp [results, Try.results31, go_sem, Ex.val, *]) rfl ⟨a2, c2, by rw [unhide HV], ?_, hE⟩
  rw [unhide HV]
  refine (((unhide HK2).on ((((((Kept.of_low _ _ _ _ ?_).trans (Kept.of_low _ _ _ _ ?_)).trans (Kept.of_low _ _ _ _ ?_)).trans (Kept.of_low _ _ _ _ ?_)).trans (Kept.of_low _ _ _ _ ?_)).trans (Kept.of_low _ _ _ _ ?_))).more (by omega)) <;> omega
set_option maxHeartbeats 1000000 in
set_option maxRecDepth 100000 in
theorem put31_step (by_ : List Ex) (B D : Nat) (aB : Option Addr) (cB : Nat) (p : Ex → Ex) (e : Ex) (h1 : (e.op == 1) = false) (hpe : p e = .mk (needE e).op (needE e).n (needE e).v (e.args.map p)) (hs : e.short) (a : Option Addr) (c : Nat) (w : World) (ha : Ex.all w a e.args) (hC : Cx by_ B D aB cB w)
    (IH : ∀ (i : Nat) (x : Ex), e.args[i]? = some x → ∀ (a' : Option Addr) (c' : Nat) (W : World), Below w.heap.size w W → Ex.all W a' x.args → Calls Try.prog 31 #[x.val a' c', .pointer (some ⟨B, 0, none⟩), .pointer (some ⟨D, 0, none⟩)] W (PP p x W)) :
    Calls Try.prog 31 #[e.val a c, .pointer (some ⟨B, 0, none⟩), .pointer (some ⟨D, 0, none⟩)] w (PP p e w) := by
  have HIH := hide IH
  obtain ⟨hl, _⟩ := Ex.short_open hs
  have HA := hide ha
  have HPE := hide hpe
  have HD := hide hC.d
  clear hC hpe
  have HCL := hide (fun W => rclean_any e.v W)
  rw [Val.open_] at HCL
  have H6 : Hid (Six (w.alloc (.cells #[.int .i64 e.op, .int .i64 e.n, .int .i64 e.v.k, .int .i64 e.v.n, .string e.v.s, .slice a e.args.length c] 26)) w.heap.size e a c) := Six.new w e a c
  have HB0 := hide (below_alloc (Below.refl _ w) (.cells #[.int .i64 e.op, .int .i64 e.n, .int .i64 e.v.k, .int .i64 e.v.n, .string e.v.s, .slice a e.args.length c] 26))
  have hsz : (w.alloc (.cells #[.int .i64 e.op, .int .i64 e.n, .int .i64 e.v.k, .int .i64 e.v.n, .string e.v.s, .slice a e.args.length c] 26)).heap.size = w.heap.size + 1 := by simp [go_sem]
  rw [Ex.val_open]
  clear IH ha hs
  go_enter Try.func31, Try.ntmps31
  go_upto_region 4 with fail
  obtain ⟨wa, hwa⟩ : ∃ wa, wa = ((w.alloc (.cells #[.int .i64 e.op, .int .i64 e.n, .int .i64 e.v.k, .int .i64 e.v.n, .string e.v.s, .slice a e.args.length c] 26)).alloc (.cells #[.int .i64 0, .int .i64 0, .int .i64 0, .int .i64 0, .string ⟨#[]⟩, .slice none 0 0] 26)).alloc (.cells #[.int .i64 e.op, .int .i64 0, .int .i64 0, .int .i64 0, .string ⟨#[]⟩, .slice none 0 0] 26) := ⟨_, rfl⟩
  have hsa : wa.heap.size = w.heap.size + 3 := by rw [hwa]; simp [go_sem]
  have HBA : Hid (Below w.heap.size w wa) := by rw [hwa]; exact below_alloc (below_alloc (unhide HB0) _) _
  have HSX : Hid (Six wa w.heap.size e a c) := by rw [hwa]; exact ((unhide H6).later (below_alloc (Below.refl _ _) _)).later (below_alloc (Below.refl _ _) _)
  have HZR : Hid (Box6 wa (w.heap.size + 1) zeroE none 0) := by
    have h := Box6.new (w.alloc (.cells #[.int .i64 e.op, .int .i64 e.n, .int .i64 e.v.k, .int .i64 e.v.n, .string e.v.s, .slice a e.args.length c] 26)) zeroE none 0
    rw [hsz] at h
    rw [hwa]
    exact h.later (below_alloc (Below.refl _ _) _)
  have HOU : Hid (Box6 wa (w.heap.size + 2) (.mk e.op 0 .null []) none 0) := by
    have h := Box6.new ((w.alloc (.cells #[.int .i64 e.op, .int .i64 e.n, .int .i64 e.v.k, .int .i64 e.v.n, .string e.v.s, .slice a e.args.length c] 26)).alloc (.cells #[.int .i64 0, .int .i64 0, .int .i64 0, .int .i64 0, .string ⟨#[]⟩, .slice none 0 0] 26)) (.mk e.op 0 .null []) none 0
    rw [show ((w.alloc (.cells #[.int .i64 e.op, .int .i64 e.n, .int .i64 e.v.k, .int .i64 e.v.n, .string e.v.s, .slice a e.args.length c] 26)).alloc (.cells #[.int .i64 0, .int .i64 0, .int .i64 0, .int .i64 0, .string ⟨#[]⟩, .slice none 0 0] 26)).heap.size = w.heap.size + 2 by simp [go_sem]] at h
    rw [hwa]
    exact h
  rw [← hwa]
  clear hwa HB0 H6 hsz
  obtain ⟨s0, s1, s2, s3, s4, s5⟩ := unhide HSX
  obtain ⟨⟨t0, t1, t2, t3, t4, t5⟩, u0, u1, u2, u3, u4, u5⟩ := unhide HOU
  go_upto_region 7 with (go_at_call 33; refine (unhide HCL _).mono ?_; rintro r w3 ⟨rfl, hb3⟩; rw [Val.open_]; obtain ⟨⟨t0, t1, t2, t3, t4, t5⟩, u0, u1, u2, u3, u4, u5⟩ := (unhide HOU).later hb3; obtain ⟨s0, s1, s2, s3, s4, s5⟩ := (unhide HSX).later hb3)
  all_goals refine enter_with (fun wx => Fr w.heap.size e a c (.slice none 0 0) wx ∧ Below w.heap.size w wx ∧ w.heap.size + 3 ≤ wx.heap.size) ?_ ?_
  all_goals first
    | exact ⟨fr_none (unhide HSX) (unhide HZR) (unhide HOU) (by assumption) (by assumption), unhide HBA, by omega⟩
    | exact ⟨fr_col (unhide HSX) (unhide HZR) (unhide HOU) (by assumption), (unhide HBA).setCell (by show w.heap.size ≤ w.heap.size + 1 + 1; omega) _, by simp only [World.setCell]; simp; omega⟩
    | exact ⟨fr_const ((unhide HSX).later hb3) ((unhide HZR).later hb3) ((unhide HOU).later hb3) (by assumption), (((below_step (unhide HBA) hb3).setCell (by show w.heap.size ≤ w.heap.size + 1 + 1; omega) _).setCell (by show w.heap.size ≤ w.heap.size + 1 + 1; omega) _).setCell (by show w.heap.size ≤ w.heap.size + 1 + 1; omega) _, by have := hb3.size; simp only [World.setCell]; simp; omega⟩
    | skip
  all_goals
    intro wx HR
    try rw [show (e.op == 1) = true by assumption]
    try rw [show (e.op == 1) = false by assumption]
    try rw [show (e.op == 2) = true by assumption]
    try rw [show (e.op == 2) = false by assumption]
    clear s0 s1 s2 s3 s4 s5 t0 t1 t2 t3 t4 t5 u0 u1 u2 u3 u4 u5 HSX HZR HOU HBA HCL
    go_loopw [30] (fun i wr => PLoop p e a c w i wr) (fun i _ => e.args.length - (intOf i).toNat)
    case atStart => exact ⟨0, _, [], Nat.zero_le _, rfl, (unhide HR).1, NInv.nil _ _, (by show _ = _; simp), (unhide HR).2.1, (unhide HR).2.2⟩
    case round =>
      obtain ⟨k, v, L, hk, rfl, HF, HN, HM, HB, hsr⟩ := hrel
      by_cases hlt : k < e.args.length
      · have h9 : (k : Int) < (e.args.length : Int) := by omega
        obtain ⟨x, hx⟩ : ∃ x, e.args[k]? = some x := ⟨_, List.getElem?_eq_getElem hlt⟩
        obtain ⟨vb, vo, ea, hat⟩ := Ex.all_get (Ex.all_later _ (unhide HA) (unhide HB)) hx
        obtain ⟨a', c', ⟨d0, d1, d2, d3, d4, d5⟩, hal⟩ := Ex.at_open hat
        obtain ⟨W1, hW1⟩ : ∃ W1, W1 = wr.alloc (.cells #[.int .i64 x.op, .int .i64 x.n, .int .i64 x.v.k, .int .i64 x.v.n, .string x.v.s, .slice a' x.args.length c'] 26) := ⟨_, rfl⟩
        have HB1 : Hid (Below wr.heap.size wr W1) := by rw [hW1]; exact below_alloc (Below.refl _ _) _
        have hs1 : W1.heap.size = wr.heap.size + 1 := by rw [hW1]; simp [go_sem]
        have H1 : Hid (Six W1 wr.heap.size x a' c') := by rw [hW1]; exact Six.new wr x a' c'
        have HC := hide (fun (W : World) (hW : Below W1.heap.size W1 W) => unhide HIH k x hx a' c' W (below_step (below_step (unhide HB) (unhide HB1)) hW) (Ex.all_later _ hal (below_step (unhide HB1) hW)))
        rw [Ex.val_open] at HC
        subst ea
        have HX := hide hx
        clear hx hat hal HIH
        go_upto_region 9 with fail
        rw [← hW1]
        have HW1 := hide hW1
        clear hW1 d0 d1 d2 d3 d4 d5
        have H5 := hide ((unhide HF).below ((unhide HB1).mono hsr) (Nat.le_refl _)).o5
        have HD1 := hide (clater (unhide HD) (below_step (unhide HB) (unhide HB1)))
        have HS0 := hide ((Below.refl W1.heap.size W1).drew)
        refine wp_region_noPanic ?_
        refine wp_region_G (S := fun w' : World => Below W1.heap.size W1 w') (k := 6) (by kernel_rfl) ?_
        refine anyG_takel (i := 0) (v := (.pointer (some ⟨w.heap.size + 2, 5, none⟩))) [1, 6] rfl (by kernel_rfl) (by kernel_rfl) (by kernel_rfl) (by kernel_rfl) (fun _ _ _ h => h) (Or.inl ⟨by rfl, fun w' hSw => ?_⟩) (unhide HS0) ?_
        · go_simp
        try simp only [Act.put, List.setIfInBounds_toArray, List.set_cons_zero, List.set_cons_succ]
        refine anyG_takel (i := 1) (v := v) [6] rfl (by kernel_rfl) (by kernel_rfl) (by kernel_rfl) (by kernel_rfl) (fun _ _ _ h => h) (Or.inl ⟨by rfl, fun w' hSw => ?_⟩) (unhide HS0) ?_
        · have e5 := clater (unhide H5) hSw; go_simp
        try simp only [Act.put, List.setIfInBounds_toArray, List.set_cons_zero, List.set_cons_succ]
        refine anyG_takel (i := 2) (v := F31 B D) [4, 5, 6] rfl (by kernel_rfl) (by kernel_rfl) (by kernel_rfl) (by kernel_rfl) (fun _ _ _ h => h) (Or.inl ⟨by rfl, fun w' hSw => ?_⟩) (unhide HS0) ?_
        · have e5 := clater (unhide HD1) hSw; go_simp
        try simp only [Act.put, List.setIfInBounds_toArray, List.set_cons_zero, List.set_cons_succ]
        refine anyG_takel (i := 3) (v := .agg #[.int .i64 x.op, .int .i64 x.n, .int .i64 x.v.k, .int .i64 x.v.n, .string x.v.s, .slice a' x.args.length c']) [4, 5, 6] rfl (by kernel_rfl) (by kernel_rfl) (by kernel_rfl) (by kernel_rfl) (fun _ _ _ h => h) (Or.inl ⟨by rfl, fun w' hSw => ?_⟩) (unhide HS0) ?_
        · obtain ⟨e0, e1, e2, e3, e4, e5⟩ := (unhide H1).later hSw; go_simp
        try simp only [Act.put, List.setIfInBounds_toArray, List.set_cons_zero, List.set_cons_succ]
        refine anyG_one (i := 4) (by kernel_rfl) ?_
        refine wpOp_lit rfl (by rfl) fun K' hK' => ?_
        unfold F31
        go_simp
        refine (unhide HC _ (unhide HS0)).mono ?_
        rintro r w3 ⟨a2, c2, rfl, hK3, hb3⟩
        go_simp
        have hS3 : Below W1.heap.size W1 w3 := below_step (unhide HS0) hb3
        refine unhide hK' _ _ ⟨fun _ => hS3, ?_⟩
        clear hK' K'
        rw [Ex.val_open]
        refine anyG_one (i := 5) (by kernel_rfl) ?_
        refine wpOp_lit rfl (by rfl) fun K' hK' => ?_
        go_simp
        refine unhide hK' _ _ ⟨fun _ => below_alloc hS3 _, ?_⟩
        clear hK' K'
        have HB3 := hide (below_alloc (below_step (unhide HB1) hS3) (.cells #[.int .i64 (p x).op, .int .i64 (p x).n, .int .i64 (p x).v.k, .int .i64 (p x).v.n, .string (p x).v.s, .slice a2 (p x).args.length c2] 26))
        have hLk : L.length = k := by have h := congrArg List.length (unhide HM); rw [List.length_map, List.length_map, List.length_take] at h; omega
        refine anyG_one (i := 6) (by kernel_rfl) ?_
        refine wpOp_lit rfl (by rfl) fun K' hK' => ?_
        refine op_append_nodes (.tmp 35) (.tmp 39) rfl (w.heap.size + 3) w3.heap.size v L [(p x, a2, c2)] rfl ((unhide HN).1.later (unhide HB3)) w3.heap.size 1 rfl (own_one w3 w3.heap.size (Nat.le_refl _) (p x, a2, c2)) (by rw [hLk]; show k + 1 ≤ _; omega) (by have := (unhide HB3).size; omega) ?_
        intro v4 w4 hO4 hg4 hv4
        obtain ⟨a4, n4, cap4, rfl⟩ : ∃ a n c, v4 = .slice a n c := by obtain ⟨a4, c4, h⟩ := hO4.slice; exact ⟨_, _, _, h⟩
        refine unhide hK' _ _ ⟨fun hh => absurd hh (by decide), ?_⟩
        clear hK' K'
        try simp only [Act.put, List.setIfInBounds_toArray, List.set_cons_zero, List.set_cons_succ]
        have HB4 : Hid (Below (w.heap.size + 3) wr w4) := ((unhide HB3).mono hsr).trans (grown_below hg4 (by have := (unhide HB3).size; omega) (fun g hg => (own_in (unhide HN).1 g hg).1))
        have HF4 := hide ((unhide HF).below (unhide HB4) (Nat.le_refl _))
        have o5 := (unhide HF4).o5
        have of := (unhide HF4).of
        have HN4 := hide (fun (w5 : World) (e5 : w5 = w4.setCell ⟨w.heap.size + 2, 5, none⟩ (.slice a4 n4 cap4)) => (unhide HN).step (q := (p x, a2, c2)) (unhide HB1) hS3 hK3 _ hO4 hg4 hv4 (by omega : w.heap.size + 2 < w.heap.size + 3) hsr e5)
        clear hO4 hg4 hv4 hK3 hS3 hb3
        refine anyG_one (i := 7) (by kernel_rfl) ?_
        refine wpOp_lit rfl (by rfl) fun K' hK' => ?_
        go_simp
        refine unhide hK' _ _ ⟨fun hh => absurd hh (by decide), ?_⟩
        clear hK' K'
        refine anyG_one (i := 8) (by kernel_rfl) ?_
        refine wpOp_lit rfl (by rfl) fun K' hK' => ?_
        go_simp
        refine unhide hK' _ _ ⟨fun hh => absurd hh (by decide), ?_⟩
        clear hK' K'
        refine anyG_done (by kernel_rfl) ?_ _
        refine NoPanic.normal ?_
        go_wp2
        refine ⟨⟨k + 1, .slice a4 n4 cap4, L ++ [(p x, a2, c2)], by omega, by go_num, (unhide HF4).put _, unhide HN4 _ rfl, ?_, ?_, ?_⟩, by simp [intOf]; omega⟩
        · show _ = _
          rw [List.map_append, unhide HM, List.take_add_one, unhide HX, List.map_append]
          rfl
        · exact (((unhide HB).trans ((unhide HB4).mono (by omega))).setCell (by show w.heap.size ≤ w.heap.size + 2; omega) _)
        · have := (unhide HB4).size
          simp only [World.setCell]
          simp
          omega
      · have h9 : ¬ (k : Int) < (e.args.length : Int) := by omega
        obtain rfl : k = e.args.length := by omega
        have hm := unhide HM
        rw [List.take_length] at hm
        obtain ⟨a2, c2, rfl, hK⟩ := (unhide HN).all (lo' := w.heap.size + 3) (Nat.le_refl _)
        rw [hm] at hK
        have HK := hide hK
        have HVL : Hid ((p e).val a2 c2 = .agg #[.int .i64 (needE e).op, .int .i64 (needE e).n, .int .i64 (needE e).v.k, .int .i64 (needE e).v.n, .string (needE e).v.s, .slice a2 L.length c2]) := by
          have h1 := congrArg List.length hm
          rw [List.length_map] at h1
          show _ = _
          rw [Ex.val_open, unhide HPE, h1]
          rfl
        obtain ⟨_, ⟨⟨z0, z1, z2, z3, z4, z5⟩, f0, f1, f2, f3, f4, f5⟩, o0, o1, o2, o3, o4, o5, of⟩ := unhide HF
        clear hK hm HM HIH HA HN
        go_wp2
        refine bodyPost_ret (v := (p e).val a2 c2) (by rw [unhide HVL]; simp [results, Try.results31, go_sem, *]) rfl ⟨a2, c2, rfl, ?_, ?_⟩
        · rw [unhide HPE]
          show ExK _ _ _ (e.args.map p)
          exact (((unhide HK).on ((((((Kept.of_low _ _ _ _ (by omega)).trans (Kept.of_low _ _ _ _ (by omega))).trans (Kept.of_low _ _ _ _ (by omega))).trans (Kept.of_low _ _ _ _ (by omega))).trans (Kept.of_low _ _ _ _ (by omega))).trans (Kept.of_low _ _ _ _ (by omega)))).more (by omega))
        · exact put6 (unhide HB) (by omega) _ _ _ _ _ _
theorem put31_all (by_ : List Ex) (hb : ∀ x ∈ by_, builtE x = true) (hbl : by_.length ≤ 140737488355328) (B D : Nat) (aB : Option Addr) (cB : Nat) : ∀ (k : Nat) (e : Ex), e.size ≤ k → e.short → goodE e → usesB e by_.length = true → ∀ (a : Option Addr) (c : Nat) (w : World), Ex.all w a e.args → Cx by_ B D aB cB w → Calls Try.prog 31 #[e.val a c, .pointer (some ⟨B, 0, none⟩), .pointer (some ⟨D, 0, none⟩)] w (PPost by_ e w)
  | 0, e, hs, _, _, _, _, _, _, _, _ => by rw [Ex.size_mk] at hs; omega
  | k + 1, e, hs, hf, hg, hu, a, c, w, ha, hC => by
    by_cases h1 : e.op = 1
    · exact put31_col by_ hb hbl B D aB cB e h1 (col_nat hg h1) (uses_col hu h1) a c w hC
    · exact put31_step by_ B D aB cB (madeE (putG by_)) e (by simpa using h1) (put_node h1) hf a c w ha hC fun i x hx a' c' W hW hal =>
        put31_all by_ hb hbl B D aB cB k x (by have := Ex.size_arg hx; omega) (Ex.short_arg hf hx) (good_arg hg hx) (uses_arg hu hx) a' c' W hal (hC.later hW)
end Go.Proofs.Ytfnacpkodfhfoac

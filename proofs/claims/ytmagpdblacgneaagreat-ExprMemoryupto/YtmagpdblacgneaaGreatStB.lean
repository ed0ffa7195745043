import Derived.Test.YtmagpdblacgneaaGreatCoB
import Derived.Test.YtmagpdblacgneaaGreatExE
import Derived.Test.YtmagpdblacgneaaGreatPuC
set_option linter.unusedSimpArgs false
set_option linter.unusedVariables false
set_option maxRecDepth 100000
namespace Go.Proofs.YtmagpdblacgneaaGreat
open Go.RowKit Go.Sort
set_option maxHeartbeats 1000000 in
set_option maxRecDepth 100000 in
theorem never_step (cols : List Int) (e : Ex) (hf : e.fin) (hg : goodE e) (aC : Option Addr) (cC : Nat) (a : Option Addr) (c : Nat) (w : World) (hl : cols.length ≤ 140737488355328) (hC : IntsAt w aC cols) (ha : Ex.all w a e.args)
    (IH : ∀ (i : Nat) (x : Ex), e.args[i]? = some x → ∀ (a' : Option Addr) (c' : Nat) (W : World), IntsAt W aC cols → Ex.all W a' x.args → Calls Tryz.prog 33 #[x.val a' c', .slice aC cols.length cC] W fun r w' => r = .returned (.bool (ntE cols x)) ∧ Below W.heap.size W w') :
    Calls Tryz.prog 33 #[e.val a c, .slice aC cols.length cC] w fun r w' => r = .returned (.bool (ntE cols e)) ∧ Below w.heap.size w w' := by
  have hBa := below_alloc (Below.refl _ w) (.cells #[.int .i64 e.op, .int .i64 e.n, .int .i64 e.v.k, .int .i64 e.v.n, .string e.v.s, .slice a e.args.length c] 26)
  have h6 : Six (w.alloc (.cells #[.int .i64 e.op, .int .i64 e.n, .int .i64 e.v.k, .int .i64 e.v.n, .string e.v.s, .slice a e.args.length c] 26)) w.heap.size e a c := Six.new w e a c
  have HAN := hide (always_all cols aC cC hl e.size e (Nat.le_refl _) hf a c (w.alloc (.cells #[.int .i64 e.op, .int .i64 e.n, .int .i64 e.v.k, .int .i64 e.v.n, .string e.v.s, .slice a e.args.length c] 26)) (hC.later hBa) (Ex.all_later _ ha hBa))
  have HTR := hide (true_any e.v)
  have HIC := hide (fun W (hW : Below w.heap.size w W) => hC.later hW)
  have HIA := hide (fun W (hW : Below w.heap.size w W) => Ex.all_later _ ha hW)
  have HIH := hide IH
  have HG := hide hg
  obtain ⟨R, hR⟩ : ∃ R, R = ntE cols e := ⟨_, rfl⟩
  have HR : Hid (R = if e.op == 2 then !trueB e.v else if e.op == 19 then ntO cols e.args else if e.op == 20 then ntA cols e.args else anE cols e) := by rw [hR]; exact ntE_eq cols e
  rw [← hR]
  generalize anE cols e = rA at *
  have HB := hide hBa
  have H6 := hide h6
  rw [Ex.val_open] at HAN ⊢
  rw [Val.open_] at HTR
  obtain ⟨c0, c1, c2, c3, c4, c5⟩ := h6
  clear hR hBa ha hC IH hg
  rcases Bool.eq_false_or_eq_true (e.op == 2) with h2 | h2
  · rw [h2] at HR
    go_enter Tryz.func33, Tryz.ntmps33
    go_wp2_with (go_at_call 51; refine (unhide HTR _).mono ?_; rintro r w1 ⟨rfl, hb1⟩)
    go_ret
    exact ⟨by rw [unhide HR]; simp, below_one hb1⟩
  rw [h2] at HR
  rcases Bool.eq_false_or_eq_true (e.op == 19) with h19 | h19
  · rw [h19] at HR
    have ho : arI e.op = 2 := by have : e.op = 19 := by simpa using h19
                                 rw [this]; rfl
    obtain ⟨x, y, hxy⟩ := two_args (unhide HG) ho
    rw [hxy, (nt_two cols x y).1] at HR
    have HX := hide (unhide HIH 0 x (by rw [hxy]; rfl))
    have HY := hide (unhide HIH 1 y (by rw [hxy]; rfl))
    have hln : e.args.length = 2 := by rw [hxy]; rfl
    have HALL := hide (fun W hW => Ex.all_get (i := 0) (e := x) (unhide HIA W hW) (by rw [hxy]; rfl))
    have HALY := hide (fun W hW => Ex.all_get (i := 1) (e := y) (unhide HIA W hW) (by rw [hxy]; rfl))
    obtain ⟨vb, vo, ea, hx0⟩ := unhide HALL _ (unhide HB)
    obtain ⟨a1, cc1, ⟨d0, d1, d2, d3, d4, d5⟩, hal1⟩ := Ex.at_open hx0
    rw [Nat.zero_mul, Nat.add_zero] at d0 d1 d2 d3 d4 d5
    have HXC := hide (unhide HX a1 cc1 _ (unhide HIC _ (unhide HB)) hal1)
    rw [Ex.val_open] at HXC
    subst ea
    rw [hln] at c0 c1 c2 c3 c4 c5 d0 d1 d2 d3 d4 d5 HXC H6 ⊢
    generalize hrx : ntE cols x = rx at *
    generalize hry : ntE cols y = ry at *
    clear hal1 hx0 hxy hrx hry ho HX
    cases rx with
    | true =>
      go_enter Tryz.func33, Tryz.ntmps33
      go_wp2_with (go_at_call 33; refine (unhide HXC).mono ?_; rintro r w1 ⟨rfl, hb1⟩)
      go_ret
      exact ⟨by rw [unhide HR]; simp, below_one hb1⟩
    | false =>
      go_enter Tryz.func33, Tryz.ntmps33
      go_wp2_with (first
        | (go_at_call 33; refine (unhide HYC).mono ?_; rintro r w2 ⟨rfl, hb2⟩)
        | (go_at_call 33; refine (unhide HXC).mono ?_; rintro r w1 ⟨rfl, hb1⟩; have hB1 := below_one hb1; obtain ⟨b0, b1, b2, b3, b4, b5⟩ := (unhide H6).later hb1; rw [hln] at b5; obtain ⟨vb2, vo2, ea2, hy0⟩ := unhide HALY w1 hB1; obtain ⟨a2, cc2, ⟨d0, d1, d2, d3, d4, d5⟩, hal2⟩ := Ex.at_open hy0; injection ea2 with ea2; injection ea2 with ea3 ea4; subst ea3 ea4; rw [Nat.one_mul] at d0 d1 d2 d3 d4 d5; have HYC := hide (unhide HY a2 cc2 w1 (unhide HIC _ hB1) hal2); rw [Ex.val_open] at HYC; clear hal2 hy0))
      go_ret
      exact ⟨by rw [unhide HR]; simp, below_step hB1 hb2⟩
  rw [h19] at HR
  rcases Bool.eq_false_or_eq_true (e.op == 20) with h20 | h20
  · rw [h20] at HR
    have ho : arI e.op = 2 := by have : e.op = 20 := by simpa using h20
                                 rw [this]; rfl
    obtain ⟨x, y, hxy⟩ := two_args (unhide HG) ho
    rw [hxy, (nt_two cols x y).2] at HR
    have HX := hide (unhide HIH 0 x (by rw [hxy]; rfl))
    have HY := hide (unhide HIH 1 y (by rw [hxy]; rfl))
    have hln : e.args.length = 2 := by rw [hxy]; rfl
    have HALL := hide (fun W hW => Ex.all_get (i := 0) (e := x) (unhide HIA W hW) (by rw [hxy]; rfl))
    have HALY := hide (fun W hW => Ex.all_get (i := 1) (e := y) (unhide HIA W hW) (by rw [hxy]; rfl))
    obtain ⟨vb, vo, ea, hx0⟩ := unhide HALL _ (unhide HB)
    obtain ⟨a1, cc1, ⟨d0, d1, d2, d3, d4, d5⟩, hal1⟩ := Ex.at_open hx0
    rw [Nat.zero_mul, Nat.add_zero] at d0 d1 d2 d3 d4 d5
    have HXC := hide (unhide HX a1 cc1 _ (unhide HIC _ (unhide HB)) hal1)
    rw [Ex.val_open] at HXC
    subst ea
    rw [hln] at c0 c1 c2 c3 c4 c5 d0 d1 d2 d3 d4 d5 HXC H6 ⊢
    generalize hrx : ntE cols x = rx at *
    generalize hry : ntE cols y = ry at *
    clear hal1 hx0 hxy hrx hry ho HX
    cases rx with
    | false =>
      go_enter Tryz.func33, Tryz.ntmps33
      go_wp2_with (go_at_call 33; refine (unhide HXC).mono ?_; rintro r w1 ⟨rfl, hb1⟩)
      go_ret
      exact ⟨by rw [unhide HR]; simp, below_one hb1⟩
    | true =>
      go_enter Tryz.func33, Tryz.ntmps33
      go_wp2_with (first
        | (go_at_call 33; refine (unhide HYC).mono ?_; rintro r w2 ⟨rfl, hb2⟩)
        | (go_at_call 33; refine (unhide HXC).mono ?_; rintro r w1 ⟨rfl, hb1⟩; have hB1 := below_one hb1; obtain ⟨b0, b1, b2, b3, b4, b5⟩ := (unhide H6).later hb1; rw [hln] at b5; obtain ⟨vb2, vo2, ea2, hy0⟩ := unhide HALY w1 hB1; obtain ⟨a2, cc2, ⟨d0, d1, d2, d3, d4, d5⟩, hal2⟩ := Ex.at_open hy0; injection ea2 with ea2; injection ea2 with ea3 ea4; subst ea3 ea4; rw [Nat.one_mul] at d0 d1 d2 d3 d4 d5; have HYC := hide (unhide HY a2 cc2 w1 (unhide HIC _ hB1) hal2); rw [Ex.val_open] at HYC; clear hal2 hy0))
      go_ret
      exact ⟨by rw [unhide HR]; simp, below_step hB1 hb2⟩
  rw [h20] at HR
  go_enter Tryz.func33, Tryz.ntmps33
  go_wp2_with (go_at_call 52; refine (unhide HAN).mono ?_; rintro r w1 ⟨rfl, hb1⟩)
  go_ret
  exact ⟨by rw [unhide HR]; simp, below_one hb1⟩
theorem never_all (cols : List Int) (aC : Option Addr) (cC : Nat) (hl : cols.length ≤ 140737488355328) : ∀ (k : Nat) (e : Ex), e.size ≤ k → e.fin → goodE e → ∀ (a : Option Addr) (c : Nat) (w : World), IntsAt w aC cols → Ex.all w a e.args →
    Calls Tryz.prog 33 #[e.val a c, .slice aC cols.length cC] w fun r w' => r = .returned (.bool (ntE cols e)) ∧ Below w.heap.size w w'
  | 0, e, hs, _, _, _, _, _, _, _ => by rw [Ex.size_mk] at hs; omega
  | k + 1, e, hs, hf, hg, a, c, w, hC, ha => never_step cols e hf hg aC cC a c w hl hC ha fun i x hx a' c' W h1 h2 => never_all cols aC cC hl k x (by have := Ex.size_arg hx; omega) (Ex.fin_arg hf hx) (good_arg hg hx) a' c' W h1 h2
end Go.Proofs.YtmagpdblacgneaaGreat
set_option linter.unusedSimpArgs false
set_option linter.unusedVariables false
set_option maxRecDepth 100000
namespace Go.Proofs.YtmagpdblacgneaaGreat
open Go.RowKit Go.Sort
/-- What Strict says. -/
def strictE (cols : List Int) (e : Ex) : Bool := builtE e && ntE cols e
/-- Strict (6): built, and never true where the columns are null. -/
theorem strict_any (cols : List Int) (e : Ex) (hf : e.fin) (hl : cols.length ≤ 140737488355328) (aC : Option Addr) (cC : Nat) (a : Option Addr) (c : Nat) (w : World) (hC : IntsAt w aC cols) (ha : Ex.all w a e.args) :
    Calls Tryz.prog 11 #[e.val a c, .slice aC cols.length cC] w fun r w' => r = .returned (.bool (strictE cols e)) ∧ Below w.heap.size w w' := by
  have HB := hide (fun o => built_any e hf a c (w.alloc o) (Ex.all_later _ ha (below_alloc (Below.refl _ _) o)))
  have HN := hide (fun (hg : goodE e) (W : World) (hW : Below w.heap.size w W) => never_all cols aC cC hl e.size e (Nat.le_refl _) hf hg a c W (hC.later hW) (Ex.all_later _ ha hW))
  have H6 : Hid (Six (w.alloc (.cells #[.int .i64 e.op, .int .i64 e.n, .int .i64 e.v.k, .int .i64 e.v.n, .string e.v.s, .slice a e.args.length c] 26)) w.heap.size e a c) := Six.new w e a c
  have HG := hide (built_good (e := e))
  have HR : Hid (strictE cols e = (builtE e && ntE cols e)) := hide rfl
  generalize strictE cols e = res at *
  clear hC ha
  rw [Ex.val_open] at HB HN ⊢
  rcases Bool.eq_false_or_eq_true (builtE e) with hb | hb
  · have HN := hide (unhide HN (unhide HG hb))
    rw [hb] at HB HR
    generalize ntE cols e = nt at *
    go_enter Tryz.func11, Tryz.ntmps11
    go_wp2_with (first
      | (go_at_call 33; refine (unhide HN _ hB1).mono ?_; rintro r w2 ⟨rfl, hb2⟩)
      | (go_at_call 21; refine (unhide HB _).mono ?_; rintro r w1 ⟨rfl, hb1⟩; have hB1 := below_one hb1; obtain ⟨b0, b1, b2, b3, b4, b5⟩ := (unhide H6).later hb1))
    go_ret
    exact ⟨by rw [unhide HR]; simp, below_step hB1 hb2⟩
  · rw [hb] at HB HR
    go_enter Tryz.func11, Tryz.ntmps11
    go_wp2_with (go_at_call 21; refine (unhide HB _).mono ?_; rintro r w1 ⟨rfl, hb1⟩)
    go_ret
    exact ⟨by rw [unhide HR]; simp, below_one hb1⟩
end Go.Proofs.YtmagpdblacgneaaGreat
set_option linter.unusedSimpArgs false
set_option linter.unusedVariables false
set_option maxRecDepth 100000
namespace Go.Proofs.YtmagpdblacgneaaGreat
open Go.ChangeShapes Go.WideShapes Go.ChangeAt Go.RowKit Go.Joins Go.Deep

theorem ownT : ownKnob Tryz.prog.godebug = none := by kernel_rfl
theorem laidT : laidOutB Tryz.prog = true := by kernel_rfl
theorem bytes3 : Tryz.prog.bytesOf 3 = 8 := by kernel_rfl
theorem bytes23 : Tryz.prog.bytesOf 23 = 32 := by kernel_rfl
section
variable {H : Type} {enc : TypeId × Value → H} {w : World} {base : Nat} {spare : Nat → Bool} {held : Bool}
theorem addr_lit (b o n : Nat) : (⟨b, o, none⟩ : Addr).add n = ⟨b, o + n, none⟩ := by
  by_cases h : n = 0 <;> simp [Addr.add, h]
set_option maxRecDepth 100000 in
/-- A list of numbers that came in, laid open. -/
theorem open_ints {r : Reach} {b0 : Nat} {v : Value} {d : DataW H} {p : List MemPlace} (hv : Value.okWide Tryz.prog w r b0 27 v) (h : DataW.Trod enc Tryz.prog w base spare held 27 v d p) (hw : ∀ n ∈ d.weights Tryz.prog (27), n ≤ reachBytes) :
    ∃ (a : Option Addr) (c : Nat) (xs : List Int), v = .slice a xs.length c ∧ IntsAt w a xs ∧ xs.length ≤ 140737488355328 := by
  obtain ⟨a0, len, cap, rfl⟩ := okWide_slice Tryz.underlying27 hv
  obtain ⟨fuel, hf⟩ := h
  rcases open_slice Tryz.underlying27 hf with ⟨hcs, hx⟩ | ⟨a, len', cap', m, n, D, Pl, hcs, hb, hl, hm, hmm, hx, hel⟩
  · simp [Value.cells] at hcs
    obtain ⟨rfl, rfl, rfl⟩ := hcs
    exact ⟨none, 0, [], rfl, .inl rfl, Nat.zero_le _⟩
  · simp [Value.cells] at hcs
    obtain ⟨rfl, rfl, rfl⟩ := hcs
    simp only [Prod.mk.injEq] at hx
    have hlm : len ≤ m := by rw [hmm]; split <;> omega
    have hbyt : len ≤ 140737488355328 := by
      have := hw ((((List.range len).map D).length + ((List.range (m - len)).map fun j => D (len + j)).length) * Tryz.prog.bytesOf 3) (by rw [hx.1]; simp [DataW.weights, Tryz.underlying27])
      rw [bytes3] at this
      have h2 := reachBytes_lt
      simp only [List.length_map, List.length_range] at this
      omega
    have hel2 : ∀ i, i < len → ∃ x : Int, w.cells? base (a.add (i * 1)) 1 = some [.int .i64 x] := by
      intro i hi
      obtain ⟨cs', h1, h2⟩ := hel i (by omega)
      rw [cells3] at h1
      obtain ⟨x, rfl, _⟩ := DataW.trod_int Tryz.underlying3 h2
      exact ⟨x, h1⟩
    obtain ⟨f, hfx⟩ := choose_lt (α := Int) (n := len) hel2
    have hlen : ((List.range len).map f).length = len := by simp
    refine ⟨some a, cap, (List.range len).map f, by rw [hlen], ?_, by rw [hlen]; exact hbyt⟩
    by_cases h0 : len = 0
    · left; subst h0; rfl
    · right
      obtain ⟨b, off, spot⟩ := a
      have hc0 := (World.cells?_some (hfx 0 (by omega))).2.2 0 (by omega)
      have hspot : spot = none := by simpa [Addr.add] using World.cell?_spot hc0
      subst hspot
      refine ⟨b, off, rfl, fun i x hx => ?_⟩
      obtain ⟨hi, rfl⟩ := List.getElem?_eq_some_iff.1 hx
      have hi' : i < len := by simpa using hi
      have e0 := (World.cells?_some (hfx i hi')).2.2 0 (by omega)
      rw [addr_lit, addr_lit] at e0
      simp only [List.getElem_map, List.getElem_range]
      simpa using e0
set_option maxRecDepth 100000 in
/-- A row that came in, laid open. -/
theorem open_row {r : Reach} {b0 : Nat} {v : Value} {d : DataW H} {p : List MemPlace} (hv : Value.okWide Tryz.prog w r b0 69 v) (h : DataW.Trod enc Tryz.prog w base spare held 69 v d p) (hw : ∀ n ∈ d.weights Tryz.prog (69), n ≤ reachBytes) :
    ∃ (a : Option Addr) (c : Nat) (xs : List Val), v = .slice a xs.length c ∧ RowAt w a xs ∧ (∀ x ∈ xs, VOk x) ∧ xs.length ≤ 4398046511104 ∧ (a = none → xs = [] ∧ c = 0) := by
  obtain ⟨a0, len, cap, rfl⟩ := okWide_slice Tryz.underlying69 hv
  obtain ⟨fuel, hf⟩ := h
  rcases open_slice Tryz.underlying69 hf with ⟨hcs, hx⟩ | ⟨a, len', cap', m, n, D, Pl, hcs, hb, hl, hm, hmm, hx, hel⟩
  · simp [Value.cells] at hcs
    obtain ⟨rfl, rfl, rfl⟩ := hcs
    exact ⟨none, 0, [], rfl, .inl rfl, by simp, Nat.zero_le _, fun _ => ⟨rfl, rfl⟩⟩
  · simp [Value.cells] at hcs
    obtain ⟨rfl, rfl, rfl⟩ := hcs
    simp only [Prod.mk.injEq] at hx
    have hlm : len ≤ m := by rw [hmm]; split <;> omega
    have hbyt : len ≤ 4398046511104 := by
      have := hw ((((List.range len).map D).length + ((List.range (m - len)).map fun j => D (len + j)).length) * Tryz.prog.bytesOf 23) (by rw [hx.1]; simp [DataW.weights, Tryz.underlying69])
      rw [bytes23] at this
      have h2 := reachBytes_lt
      simp only [List.length_map, List.length_range] at this
      omega
    have hel2 : ∀ i, i < len → ∃ x : Val, w.cells? base (a.add (i * 3)) 3 = some [.int .i64 x.k, .int .i64 x.n, .string x.s] ∧ VOk x := by
      intro i hi
      obtain ⟨cs, g1, g2⟩ := hel i (by omega)
      rw [cells23] at g1
      have hwi : ∀ n ∈ (D i).weights Tryz.prog (23), n ≤ reachBytes := fun n hn => hw n (by
        rw [hx.1]
        simp only [DataW.weights, Tryz.underlying69, List.mem_cons, List.mem_append]
        exact .inr (.inl (weights_all (List.mem_map.2 ⟨i, List.mem_range.2 hi, rfl⟩) n hn)))
      obtain ⟨z0, z1, z2, n2, hz, hzl, h0, h1, h2⟩ := trod_struct3 Tryz.underlying23 g2
      rw [cells23] at hzl
      match cs, hzl with
      | [c0, c1, c2], _ =>
        simp only [cells3, cells2, cells9, List.drop_zero, List.take_succ_cons, List.take_zero, List.drop_succ_cons] at h0 h1 h2
        obtain ⟨vk, e2, r0, wk⟩ := DataW.trod_int Tryz.underlying3 h0
        obtain ⟨vn, e3, r1, wn⟩ := DataW.trod_int Tryz.underlying2 h1
        obtain ⟨vs, e4, r2, ws⟩ := DataW.trod_string Tryz.underlying9 h2
        simp only [List.cons.injEq, and_true] at e2 e3 e4
        subst e2 e3 e4
        have hD : D i = .agg [z0.1, z1.1, z2.1] := by simp only [Prod.mk.injEq] at hz; exact hz.1
        refine ⟨⟨vk, vn, vs⟩, g1, in64_of wn, ?_⟩
        have := hwi vs.data.toList.length (by rw [hD]; simp [DataW.weights, DataW.weightsEach, Tryz.underlying23, r2])
        have h2 := reachBytes_lt
        rw [Array.length_toList] at this
        have e : vs.data.size = vs.size := rfl
        show vs.size ≤ _
        omega
    have inst : Inhabited Val := ⟨Val.null⟩
    obtain ⟨f, hfx⟩ := choose_lt (α := Val) (n := len) hel2
    have hlen : ((List.range len).map f).length = len := by simp
    refine ⟨some a, cap, (List.range len).map f, by rw [hlen], ?_, ?_, by rw [hlen]; exact hbyt, fun h => by cases h⟩
    · by_cases h0 : len = 0
      · left; subst h0; rfl
      · right
        obtain ⟨b, off, spot⟩ := a
        have hc0 := (World.cells?_some (hfx 0 (by omega)).1).2.2 0 (by omega)
        have hspot : spot = none := by simpa [Addr.add] using World.cell?_spot hc0
        subst hspot
        refine ⟨b, off, rfl, fun i x hx => ?_⟩
        obtain ⟨hi, rfl⟩ := List.getElem?_eq_some_iff.1 hx
        have hi' : i < len := by simpa using hi
        have hc := (World.cells?_some (hfx i hi').1).2.2
        have e0 := hc 0 (by omega)
        have e1 := hc 1 (by omega)
        have e2 := hc 2 (by omega)
        rw [addr_lit, addr_lit] at e0 e1 e2
        simp only [List.getElem_map, List.getElem_range]
        exact ⟨by simpa using e0, by simpa using e1, by simpa using e2⟩
    · intro x hx
      obtain ⟨i, hi, rfl⟩ := List.mem_map.1 hx
      exact (hfx i (by simpa using hi)).2
end
end Go.Proofs.YtmagpdblacgneaaGreat
set_option linter.unusedSimpArgs false
set_option linter.unusedVariables false
namespace Go.Proofs.YtmagpdblacgneaaGreat
open Go.RowKit Go.Sort

def colZ : Ex := .mk 1 0 .null []
def by7 : List Ex := [.mk 2 0 (.num 7) []]
theorem col_fin : colZ.fin := by
  unfold colZ
  simp only [Ex.fin, Ex.fins]
  exact ⟨⟨by decide, by decide, ⟨by decide, by decide⟩, ⟨by decide, by decide⟩⟩, trivial⟩
theorem by7_fin : Ex.fins by7 := by
  unfold by7
  simp only [Ex.fin, Ex.fins]
  exact ⟨⟨⟨by decide, by decide, ⟨by decide, by decide⟩, ⟨by decide, by decide⟩⟩, trivial⟩, trivial⟩
theorem seven_ok : okP by7 colZ = true := by decide
theorem seven_is : madeE (putG by7) colZ = .mk 2 0 (.num 7) [] := by kernel_rfl
theorem seven_val : evalB [] (.mk 2 0 (.num 7) []) = .num 7 := by kernel_rfl
theorem seven_fin : (Ex.mk 2 0 (.num 7) []).fin := by
  simp only [Ex.fin, Ex.fins]
  exact ⟨⟨by decide, by decide, ⟨by decide, by decide⟩, ⟨by decide, by decide⟩⟩, trivial⟩
theorem seven_at (w : World) : Ex.all (w.alloc (.cells #[.int .i64 2, .int .i64 0, .int .i64 1, .int .i64 7, .string ⟨#[]⟩, .slice none 0 0] 26)) (some ⟨w.heap.size, 0, none⟩) by7 := by
  show Ex.all _ _ [.mk 2 0 (.num 7) []]
  simp only [Ex.all]
  refine ⟨_, _, rfl, ?_, trivial⟩
  rw [Ex.at]
  refine ⟨none, 0, ⟨?_, ?_, ?_, ?_, ?_, ?_⟩, by rw [Ex.all]; trivial⟩ <;> simp [go_sem, Val.num]
theorem seven_put (w : World) : Calls Tryz.prog 8 #[.agg #[.int .i64 1, .int .i64 0, .int .i64 0, .int .i64 0, .string ⟨#[]⟩, .slice none 0 0], .slice (some ⟨w.heap.size, 0, none⟩) 1 1] (w.alloc (.cells #[.int .i64 2, .int .i64 0, .int .i64 1, .int .i64 7, .string ⟨#[]⟩, .slice none 0 0] 26)) fun r w' => ∃ a2 c2, r = .returned (.tuple #[(Ex.mk 2 0 (.num 7) []).val a2 c2, .int .i64 0]) ∧ Below w.heap.size w w' := by
  have h := put_any by7 by7_fin (by show 1 ≤ 140737488355328; decide) (some ⟨w.heap.size, 0, none⟩) 1 colZ col_fin none 0 (w.alloc (.cells #[.int .i64 2, .int .i64 0, .int .i64 1, .int .i64 7, .string ⟨#[]⟩, .slice none 0 0] 26)) (by show Ex.all _ _ []; rw [Ex.all]; trivial) (seven_at w)
  refine h.mono fun r w' hp => ?_
  rcases hp with ⟨_, _, _, _, a2, c2, h1, _, h3⟩ | ⟨er, _, h2, _⟩
  · rw [seven_is] at h1
    exact ⟨a2, c2, h1, below_one h3⟩
  · rw [seven_ok] at h2
    cases h2
theorem seven_eval (a : Option Addr) (c : Nat) (w : World) : Calls Tryz.prog 37 #[(Ex.mk 2 0 (.num 7) []).val a c, .slice none 0 0] w fun r w' => r = .returned (Val.num 7).v ∧ Below w.heap.size w w' := by
  have h := evals_any (.mk 2 0 (.num 7) []) seven_fin [] (by simp) (by decide) a none c 0 w (by show Ex.all _ _ []; rw [Ex.all]; trivial) (.inl rfl)
  rw [seven_val] at h
  exact h
set_option maxHeartbeats 1000000 in
set_option maxRecDepth 100000 in
theorem seven_any (w : World) : Calls Tryz.prog 20 #[] w fun r w' => r = .returned (.bool true) ∧ Below w.heap.size w w' := by
  have hfld : ∀ W, (Instr.field 23 (.agg #[.int .i64 (Val.num 7).k, .int .i64 (Val.num 7).n, .string (Val.num 7).s]) 1).run Tryz.prog W = .ok (.int .i64 7) W := fun W => by kernel_rfl
  have HP := hide (seven_put w)
  have HE := hide (fun a c W => seven_eval a c W)
  go_enter Tryz.func20, Tryz.ntmps20
  go_wp2_with (first
    | (go_at_call 37; refine (unhide HE a2 c2 _).mono ?_; rintro r w2 ⟨rfl, hb2⟩; rw [Val.open_])
    | (go_at_call 8; refine (unhide HP).mono ?_; rintro r w1 ⟨a2, c2, rfl, hb1⟩; rw [Ex.val_open]))
  go_ret
  exact ⟨rfl, below_step (below_alloc hb1 _) hb2⟩
end Go.Proofs.YtmagpdblacgneaaGreat

import Derived.Test.YtmjeiepljlepbacGreatFdC
import Derived.Test.YtmjeiepljlepbacGreatPaI
import Derived.Test.YtmjeiepljlepbacGreatKnE
import Derived.Test.YtmjeiepljlepbacGreatPaH
import Derived.Test.YtmjeiepljlepbacGreatEvH
import Derived.Test.YtmjeiepljlepbacGreatLongQ
import Derived.Test.YtmjeiepljlepbacGreatPuB
set_option linter.unusedSimpArgs false
set_option linter.unusedVariables false
set_option maxRecDepth 100000
namespace Go.Proofs.YtmjeiepljlepbacGreat
open Go.RowKit Go.Sort

theorem copy_arg {e x : Ex} {i : Nat} (h : copyE e = e) (hx : e.args[i]? = some x) : copyE x = x := by
  have h1 := congrArg Ex.args h
  rw [copy_args] at h1
  have h2 : (e.args.map copyE)[i]? = e.args[i]? := by rw [h1]
  rw [List.getElem?_map, hx] at h2
  simpa using h2
/-- The document's fold (84), of what has no more than it needs. -/
theorem rfold_all : ∀ (k : Nat) (e : Ex), e.size ≤ k → e.fin → goodE e → copyE e = e → ∀ (a : Option Addr) (c : Nat) (w : World), Ex.all w a e.args → Calls Tryz.prog 84 #[e.val a c] w (FPost e w)
  | 0, e, hs, _, _, _, _, _, _, _ => by rw [Ex.size_mk] at hs; omega
  | k + 1, e, hs, hf, hg, hc, a, c, w, ha => rfold_step e hf hg hc a c w ha fun i x hx a' c' W hW => rfold_all k x (by have := Ex.size_arg hx; omega) (Ex.fin_arg hf hx) (good_arg hg hx) (copy_arg hc hx) a' c' W hW
theorem copy_ind (Q : Ex → Prop) (h : ∀ e, (∀ x ∈ e.args, Q x) → Q e) : ∀ e, Q e := by
  suffices H : ∀ (k : Nat) (e : Ex), e.size ≤ k → Q e from fun e => H e.size e (Nat.le_refl _)
  intro k
  induction k with
  | zero => intro e hs; rw [Ex.size_mk] at hs; omega
  | succ k ih =>
    intro e hs
    refine h e fun x hx => ih x ?_
    have := Ex.size_mem hx
    rw [Ex.size_mk] at hs
    omega
theorem copy_copy : ∀ e, copyE (copyE e) = copyE e := copy_ind _ fun e ih => by
  rw [copyE_eq (copyE e), copy_op, copy_n, copy_v, copy_args, copyE_eq e]
  have h1 : (e.args.map copyE).map copyE = e.args.map copyE := by
    rw [List.map_map]
    exact List.map_congr_left fun x hx => ih x hx
  rw [h1]
  by_cases h : e.op = 1
  · rw [h]; rfl
  · have e1 : (e.op == 1) = false := by simpa using h
    rw [e1]
    by_cases h2 : e.op = 2
    · rw [h2]; simp [clean_clean]
    · have e2 : (e.op == 2) = false := by simpa using h2
      rw [e2]; rfl
theorem fold_copy : ∀ e, foldE (copyE e) = foldE e := copy_ind _ fun e ih => by
  show madeE simpE (copyE e) = madeE simpE e
  rw [madeE_eq, madeE_eq]
  congr 1
  unfold nodeG
  rw [copy_op, copy_n, copy_v, copy_args]
  have h1 : (e.args.map copyE).map (madeE simpE) = e.args.map (madeE simpE) := by
    rw [List.map_map]
    exact List.map_congr_left fun x hx => ih x hx
  rw [h1]
  by_cases h : e.op = 1
  · rw [h]; rfl
  · have e1 : (e.op == 1) = false := by simpa using h
    rw [e1]
    by_cases h2 : e.op = 2
    · rw [h2]; simp [clean_clean]
    · have e2 : (e.op == 2) = false := by simpa using h2
      rw [e2]; rfl
theorem copy_good : ∀ e, goodE e → goodE (copyE e) := copy_ind _ fun e ih hg => by
  have hs := (good_open hg).1
  refine good_mk _ ?_ (goodL_of _ fun x hx => ?_)
  · unfold soundE at hs ⊢
    rw [copy_op, copy_n, copy_v, copy_args, List.length_map]
    by_cases h : e.op = 1
    · rw [h] at hs ⊢; exact hs
    · have e1 : (e.op == 1) = false := by simpa using h
      rw [e1] at hs ⊢
      by_cases h2 : e.op = 2
      · rw [h2] at hs ⊢; simpa [clean_clean] using hs
      · have e2 : (e.op == 2) = false := by simpa using h2
        rw [e2] at hs ⊢; exact hs
  · rw [copy_args] at hx
    obtain ⟨y, hy, rfl⟩ := List.mem_map.1 hx
    exact ih y hy (goodL_mem (good_open hg).2 hy)
/-- What the document's Fold answers. -/
def foldR (e : Ex) : Ex := if builtE e then foldE e else copyE e
set_option maxHeartbeats 1000000 in
/-- tallyref.Fold (42). -/
theorem rFold_any (e : Ex) (hf : e.fin) (hs : e.short) (a : Option Addr) (c : Nat) (w : World) (ha : Ex.all w a e.args) :
    Calls Tryz.prog 42 #[e.val a c] w fun r w' => ∃ a2 c2, r = .returned ((foldR e).val a2 c2) ∧ Ex.all w' a2 (foldR e).args ∧ Below w.heap.size w w' := by
  have HB := hide (fun (W : World) (hW : Below w.heap.size w W) => rbuilt_any e hf a c W (Ex.all_later _ ha hW))
  have HN := hide (fun (W : World) (hW : Below w.heap.size w W) => neat_any e hs a c W (Ex.all_later _ ha hW))
  have HFO : Hid (builtE e = true → ∀ (a' : Option Addr) (c' : Nat) (W : World), Ex.all W a' (copyE e).args → Calls Tryz.prog 84 #[(copyE e).val a' c'] W (FPost (copyE e) W)) := fun hb a' c' W hW =>
    rfold_all (copyE e).size (copyE e) (Nat.le_refl _) (copy_fin e hf) (copy_good e (built_good hb)) (copy_copy e) a' c' W hW
  have HB0 := hide (below_alloc (Below.refl _ w) (.cells #[.int .i64 e.op, .int .i64 e.n, .int .i64 e.v.k, .int .i64 e.v.n, .string e.v.s, .slice a e.args.length c] 59))
  have HBB := hide (below_alloc (below_alloc (Below.refl _ w) (.cells #[.int .i64 e.op, .int .i64 e.n, .int .i64 e.v.k, .int .i64 e.v.n, .string e.v.s, .slice a e.args.length c] 59)) (.cells #[.int .i64 0, .int .i64 0, .int .i64 0, .int .i64 0, .string ⟨#[]⟩, .slice none 0 0] 59))
  have hsz : (w.alloc (.cells #[.int .i64 e.op, .int .i64 e.n, .int .i64 e.v.k, .int .i64 e.v.n, .string e.v.s, .slice a e.args.length c] 59)).heap.size = w.heap.size + 1 := by simp [go_sem]
  have H6 := hide ((Six.new w e a c).later (below_alloc (Below.refl _ _) (.cells #[.int .i64 0, .int .i64 0, .int .i64 0, .int .i64 0, .string ⟨#[]⟩, .slice none 0 0] 59)))
  have HZ := hide (Box6.new (w.alloc (.cells #[.int .i64 e.op, .int .i64 e.n, .int .i64 e.v.k, .int .i64 e.v.n, .string e.v.s, .slice a e.args.length c] 59)) zeroE none 0)
  rw [hsz] at HZ
  obtain ⟨wa, hwa⟩ : ∃ wa, wa = (w.alloc (.cells #[.int .i64 e.op, .int .i64 e.n, .int .i64 e.v.k, .int .i64 e.v.n, .string e.v.s, .slice a e.args.length c] 59)).alloc (.cells #[.int .i64 0, .int .i64 0, .int .i64 0, .int .i64 0, .string ⟨#[]⟩, .slice none 0 0] 59) := ⟨_, rfl⟩
  have HBA : Hid (Below w.heap.size w wa) := by rw [hwa]; exact unhide HBB
  have HSX : Hid (Six wa w.heap.size e a c) := by rw [hwa]; exact unhide H6
  have HZX : Hid (Box6 wa (w.heap.size + 1) zeroE none 0) := by rw [hwa]; exact unhide HZ
  have hsa : wa.heap.size = w.heap.size + 2 := by rw [hwa]; simp [go_sem]
  rw [Ex.val_open] at HB HN ⊢
  clear ha hf hs HZ H6 HBB HB0 hsz
  go_enter Tryz.func42, Tryz.ntmps42
  go_upto_region 1 with fail
  rw [← hwa]
  clear hwa
  obtain ⟨s0, s1, s2, s3, s4, s5⟩ := unhide HSX
  cases hb : builtE e with
  | false =>
    have HFR : Hid (foldR e = copyE e) := by show _ = _; unfold foldR; rw [hb]; rfl
    rw [hb] at HB
    clear hb HFO
    unfold NPost at HN
    go_wp2_with (first
      | (go_at_call 79; refine (unhide HN w1 hB1).mono ?_; rintro r w2 ⟨a2, c2, rfl, hK2, hb2⟩; rw [Ex.val_open]; have hB2 := below_step hb1 hb2; obtain ⟨⟨z0, z1, z2, z3, z4, z5⟩, f0, f1, f2, f3, f4, f5⟩ := (unhide HZX).later hB2)
      | (go_at_call 69; refine (unhide HB wa (unhide HBA)).mono ?_; rintro r w1 ⟨rfl, hb1⟩; have hB1 := below_step (unhide HBA) hb1; obtain ⟨s0, s1, s2, s3, s4, s5⟩ := (unhide HSX).later hb1))
    refine bodyPost_ret (v := (copyE e).val a2 c2) (by rw [Ex.val_open]; simp [results, Tryz.results42, go_sem, *]) rfl ⟨a2, c2, by rw [unhide HFR], ?_, ?_⟩
    · rw [unhide HFR]; exact (exk_put6 hK2 (by have := hb1.size; omega) _ _ _ _ _ _).now
    · exact put6 (below_step hB1 hb2) (by omega) _ _ _ _ _ _
  | true =>
    have HFR : Hid (foldR e = foldE e) := by show _ = _; unfold foldR; rw [hb]; rfl
    have HFO := hide (unhide HFO hb)
    rw [hb] at HB
    clear hb
    unfold FPost at HFO
    rw [fold_copy] at HFO
    unfold NPost at HN
    go_wp2_with (first
      | (go_at_call 84; have HX := unhide HFO a2 c2 w2 hK2.now; rw [Ex.val_open] at HX; refine HX.mono ?_; rintro r w3 ⟨a3, c3, rfl, hK3, hb3⟩; rw [Ex.val_open]; have hB3 := below_step (below_step hb1 hb2) hb3; obtain ⟨⟨z0, z1, z2, z3, z4, z5⟩, f0, f1, f2, f3, f4, f5⟩ := (unhide HZX).later hB3)
      | (go_at_call 79; refine (unhide HN w1 hB1).mono ?_; rintro r w2 ⟨a2, c2, rfl, hK2, hb2⟩; rw [Ex.val_open])
      | (go_at_call 69; refine (unhide HB wa (unhide HBA)).mono ?_; rintro r w1 ⟨rfl, hb1⟩; have hB1 := below_step (unhide HBA) hb1; obtain ⟨s0, s1, s2, s3, s4, s5⟩ := (unhide HSX).later hb1))
    refine bodyPost_ret (v := (foldE e).val a3 c3) (by rw [Ex.val_open]; simp [results, Tryz.results42, go_sem, *]) rfl ⟨a3, c3, by rw [unhide HFR], ?_, ?_⟩
    · rw [unhide HFR]; exact (exk_put6 hK3 (by have := hb1.size; have := hb2.size; omega) _ _ _ _ _ _).now
    · exact put6 (below_step (below_step hB1 hb2) hb3) (by omega) _ _ _ _ _ _
set_option maxHeartbeats 1000000 in
/-- tallyref.Parts (37), of what is not built. -/
theorem rparts_no (e : Ex) (hf : e.fin) (hs : e.short) (hm : (measE allE e 33554432 131072).2.2 = true) (hbt : builtE e = false) (a : Option Addr) (c : Nat) (w : World) (ha : Ex.all w a e.args) : Calls Tryz.prog 37 #[e.val a c] w (PartsK w e) := by
  have HB := hide (fun (W : World) (hW : Below w.heap.size w W) => rbuilt_any e hf a c W (Ex.all_later _ ha hW))
  have HC := hide (fun (W : World) (hW : Below w.heap.size w W) => neat_any e hs a c W (Ex.all_later _ ha hW))
  have HB0 := hide (below_alloc (Below.refl _ w) (.cells #[.int .i64 e.op, .int .i64 e.n, .int .i64 e.v.k, .int .i64 e.v.n, .string e.v.s, .slice a e.args.length c] 59))
  have H6 : Hid (Six (w.alloc (.cells #[.int .i64 e.op, .int .i64 e.n, .int .i64 e.v.k, .int .i64 e.v.n, .string e.v.s, .slice a e.args.length c] 59)) w.heap.size e a c) := Six.new w e a c
  have hcT : copyT e = copyE e := by unfold copyT; rw [hm]; rfl
  have HP : Hid (partsE e = [copyT e]) := by
    show _ = _
    rw [partsE_eq, if_neg]
    simp [hbt]
  have HCT := hide hcT
  rw [Ex.val_open] at HB HC ⊢
  rw [hbt] at HB
  clear ha hcT hbt hf hm hs
  go_enter Tryz.func37, Tryz.ntmps37
  go_wp2_with (first
    | (go_at_call 79; refine (unhide HC w1 hB1).mono ?_; rintro r w2 ⟨a2, c2, rfl, hK2, hb2⟩; rw [Ex.val_open])
    | (go_at_call 69; refine (unhide HB _ (unhide HB0)).mono ?_; rintro r w1 ⟨rfl, hb1⟩; have hB1 := below_step (unhide HB0) hb1; obtain ⟨b0, b1, b2, b3, b4, b5⟩ := (unhide H6).later hb1))
  go_ret
  have h := leaf_k2 (c2 := c2) hB1 hb2 (by rw [unhide HCT]; exact hK2) (unhide HP)
  rw [unhide HCT] at h
  exact h
end Go.Proofs.YtmjeiepljlepbacGreat
set_option linter.unusedSimpArgs false
set_option linter.unusedVariables false
set_option maxRecDepth 100000
namespace Go.Proofs.YtmjeiepljlepbacGreat
open Go.RowKit Go.Sort

theorem neqV (x : Val) (w : World) : (binOp .neq 38 (.agg #[.int .i64 x.k, .int .i64 x.n, .string x.s]) (.agg #[.int .i64 x.k, .int .i64 x.n, .string x.s])).run Tryz.prog w = .ok (.bool false) w := by
  have h := eqV x x w
  rw [run_eql_struct] at h
  rw [run_neq_struct]
  generalize (Op.equalIn 10000 38 (.agg #[.int .i64 x.k, .int .i64 x.n, .string x.s]) (.agg #[.int .i64 x.k, .int .i64 x.n, .string x.s])).run Tryz.prog w = r at *
  cases r with
  | ok b w' =>
    simp only [Result.andThen_ok] at h ⊢
    injection h with h1 h2
    injection h1 with h1
    rw [h1, h2]
    simp
  | halt q w' => simp [Result.andThen] at h
set_option maxHeartbeats 400000 in
/-- tallylaw.num (29). -/
theorem lawnum_any (n : Int) (w : World) : Calls Tryz.prog 29 #[.int .i64 n] w fun r w' => r = .returned (.int .i64 n) ∧ Below w.heap.size w w' := by
  go_enter Tryz.func29, Tryz.ntmps29
  go_wp2
  go_ret
  exact ⟨rfl, by first | exact Below.refl _ _ | exact below_alloc (Below.refl _ _) _⟩
mutual
theorem copy_short : ∀ (e : Ex), e.short → (copyE e).short
  | .mk op n v l, h => by
    rw [Ex.short] at h
    rw [copyE, Ex.short, copyL_map, List.length_map, ← copyL_map]
    exact ⟨h.1, copy_shorts l h.2⟩
theorem copy_shorts : ∀ (l : List Ex), Ex.shorts l → Ex.shorts (copyL l)
  | [], _ => by rw [copyL, Ex.shorts]; trivial
  | e :: l, h => by
    rw [Ex.shorts] at h
    rw [copyL, Ex.shorts]
    exact ⟨copy_short e h.1, copy_shorts l h.2⟩
end
theorem copyT_short {e : Ex} (h : e.short) : (copyT e).short := by
  unfold copyT
  split
  · exact copy_short e h
  · exact h
theorem mem_partsL : ∀ {l : List Ex} {p : Ex}, p ∈ partsL l → ∃ x ∈ l, p ∈ partsE x
  | [], p, h => by rw [partsL] at h; cases h
  | e :: l, p, h => by
    rw [partsL] at h
    rcases List.mem_append.1 h with h | h
    · exact ⟨e, by simp, h⟩
    · obtain ⟨x, hx, hp⟩ := mem_partsL h
      exact ⟨x, by simp [hx], hp⟩
theorem parts_short : ∀ e : Ex, e.short → ∀ p ∈ partsE e, p.short := copy_ind _ fun e ih hs p hp => by
  rw [partsE_eq] at hp
  split at hp
  · obtain ⟨x, hx, hpx⟩ := mem_partsL hp
    obtain ⟨i, hi⟩ := List.mem_iff_getElem?.1 hx
    exact ih x hx (Ex.short_arg hs hi) p hpx
  · rw [List.mem_singleton] at hp
    rw [hp]
    exact copyT_short hs
theorem parts_few {e : Ex} : (partsE e).length ≤ 400 := by
  by_cases h : builtE e = true
  · exact parts_400 h
  · rw [partsE_eq, if_neg (by simp [h])]
    simp
/-- A list of numbers that is answered. -/
def IPost (U : List Int) (w : World) (r : Ending) (w' : World) : Prop := ∃ a1 c1, r = .returned (.slice a1 U.length c1) ∧ IntsAt w' a1 U ∧ Below w.heap.size w w'
/-- A list of expressions that is answered. -/
def EPost (P : List Ex) (w : World) (r : Ending) (w' : World) : Prop := ∃ a1 c1, r = .returned (.slice a1 P.length c1) ∧ Ex.all w' a1 P ∧ Below w.heap.size w w'
/-- An expression that is answered. -/
def XPost (F : Ex) (w : World) (r : Ending) (w' : World) : Prop := ∃ a1 c1, r = .returned (F.val a1 c1) ∧ Ex.all w' a1 F.args ∧ Below w.heap.size w w'
def colsU (e : Ex) : List Int := if builtE e then uniqI (colsE e) else []
theorem own_ipost {w w' : World} {v : Value} {U : List Int} (h : OwnI w' w.heap.size v U) (hb : Below w.heap.size w w') : IPost U w (.returned v) w' := by
  obtain ⟨a1, c1, rfl⟩ := h.slice
  exact ⟨a1, c1, rfl, h.ints, hb⟩
theorem cols_one (e : Ex) (hf : e.fin) (a : Option Addr) (c : Nat) (w : World) (ha : Ex.all w a e.args) : Calls Tryz.prog 33 #[e.val a c] w (IPost (colsU e) w) :=
  (cols_any e hf a c w ha).mono fun r w' ⟨v, h1, h2, h3⟩ => by rw [h1]; exact own_ipost h2 h3
theorem rcols_one (e : Ex) (hf : e.fin) (a : Option Addr) (c : Nat) (w : World) (ha : Ex.all w a e.args) : Calls Tryz.prog 34 #[e.val a c] w (IPost (colsU e) w) :=
  (rcols_any e hf a c w ha).mono fun r w' ⟨v, L, h1, h2, h3, h4, h5⟩ => by
    have hL : L = colsU e := by
      unfold colsU
      cases hb : builtE e with
      | true => exact sd_uniq (h3 hb)
      | false => exact h4 hb
    rw [h1, ← hL]
    exact own_ipost h2 h5
theorem colsU_few (e : Ex) : (colsU e).length ≤ 400 := by
  unfold colsU
  cases hb : builtE e with
  | true =>
    have h1 := (uniq_sd (colsE e)).2.2
    have h2 := cols_size e
    have h3 := (built_bounds hb).1
    show (uniqI (colsE e)).length ≤ 400
    omega
  | false => exact Nat.zero_le _
theorem partsG_all {w w' : World} {e : Ex} {r : Ending} (h : PartsOk w e r w') : EPost (partsE e) w r w' := by
  obtain ⟨g, cap, L, h1, h2, h3, h4, h5⟩ := h
  have hl : L.length = (partsE e).length := by rw [← h3, List.length_map]
  refine ⟨some ⟨g, 0, none⟩, cap, by rw [h1, hl], ?_, h5⟩
  rw [← h3]
  exact ownE_kept (lo := 0) h2 (Kept.refl _ _ _) (Nat.zero_le _) fun q hq => h4 q hq w' h5 (Kept.refl _ _ _)
theorem parts_one (e : Ex) (hf : e.fin) (a : Option Addr) (c : Nat) (w : World) (ha : Ex.all w a e.args) : Calls Tryz.prog 36 #[e.val a c] w (EPost (partsE e) w) :=
  (parts_any e hf a c w ha).mono fun r w' h => partsG_all h
theorem rparts_one (e : Ex) (hf : e.fin) (hm : (measE allE e 33554432 131072).2.2 = true) (a : Option Addr) (c : Nat) (w : World) (ha : Ex.all w a e.args) : Calls Tryz.prog 37 #[e.val a c] w (EPost (partsE e) w) := by
  by_cases hb : builtE e = true
  · exact (rparts_built e.size e (Nat.le_refl _) hf hb a c w ha).mono fun r w' h => partsG_all h.ok
  · exact (rparts_no e hf (meas_short allE e _ _ (by omega) hm) hm (by simpa using hb) a c w ha).mono fun r w' h => partsG_all h.ok
theorem fold_one (e : Ex) (hf : e.fin) (hm : (measE allE e 33554432 131072).2.2 = true) (a : Option Addr) (c : Nat) (w : World) (ha : Ex.all w a e.args) : Calls Tryz.prog 41 #[e.val a c] w (XPost (foldR e) w) := by
  have he : foldB e = foldR e := by unfold foldB foldR copyT; rw [hm]; rfl
  refine (fold_any e hf a c w ha).mono fun r w' h => ?_
  rw [he] at h
  exact h
theorem foldR_short (e : Ex) (hm : (measE allE e 33554432 131072).2.2 = true) : (foldR e).short := by
  unfold foldR
  cases hb : builtE e with
  | true => exact meas_short soundE _ 400 40 (by omega) (fold_built hb)
  | false => exact copy_short e (meas_short allE e _ _ (by omega) hm)
theorem evalB_eq (row : List Val) (e : Ex) : evalB row e = if builtE e then evalE row e else .null := rfl
end Go.Proofs.YtmjeiepljlepbacGreat

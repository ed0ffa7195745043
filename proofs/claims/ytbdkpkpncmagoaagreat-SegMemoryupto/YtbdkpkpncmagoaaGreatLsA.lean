import Derived.Test.YtbdkpkpncmagoaaGreatQSrO
import Derived.Test.YtbdkpkpncmagoaaGreatRdQ
set_option linter.unusedSimpArgs false
set_option linter.unusedVariables false
set_option maxRecDepth 100000
namespace Go.Proofs.YtbdkpkpncmagoaaGreat
open Go.RowKit Go.Sort

/-- What the columns of Build's are. -/
def colsX (kinds : List Int) (rs : List (List Val)) : List Vc := (List.range kinds.length).map fun i => (colX kinds rs i).1
theorem colsX_at {kinds : List Int} {rs : List (List Val)} {i : Nat} {X : Vc} (h : (colsX kinds rs)[i]? = some X) : i < kinds.length ∧ X = (colX kinds rs i).1 := by
  unfold colsX at h
  rw [List.getElem?_map] at h
  by_cases hi : i < kinds.length
  · rw [List.getElem?_range hi] at h
    injection h with h
    exact ⟨hi, h.symm⟩
  · rw [List.getElem?_eq_none (by simp; omega)] at h
    cases h
theorem kp_un {rows : Nat} {X : Vc} (hf : Fit rows X) (hff : fromV X.k (valsV X) = (X, 0)) {s : ByteArray} (h : KP X s) : UnR s.data.toList X 0 := by
  rcases h with ⟨_, h⟩ | ⟨_, h, _⟩
  · obtain ⟨⟨n, h1, h4, hw⟩, _⟩ := pb_one hf.good 3 s h
    have := packed_col hf.rng (n := n) (by omega) hw
    have l1 := hf.len; have l2 := hf.le; have l3 := hf.ns; have l4 := hf.ss
    exact .inl ⟨rfl, ⟨n, this⟩, hff, by omega, by omega, by omega⟩
  · exact absurd rfl h
/-- What Build wrote is a segment of its columns. -/
theorem seg_of {kinds : List Int} {rs : List (List Val)} {ps : List (ByteArray × ByteArray)} (hE : Even kinds rs) (hr : ∀ r ∈ rs, ∀ x ∈ r, -9223372036854775808 ≤ x.n ∧ x.n ≤ 9223372036854775807) (h1 : 1 ≤ kinds.length) (h2 : kinds.length ≤ 32)
    (hc : ∀ j, j < kinds.length → (colX kinds rs j).2 = 0) (hP : PsX KP zP kinds.length (fun i => (colX kinds rs i).1) ps) {l : List UInt8} (hl : segB kinds.length rs.length ps = bs l) :
    Seg l (colsX kinds rs) ps ∧ layR l = rs.length ∧ layN l = kinds.length ∧ l.length ≤ 140737488300000 := by
  have hle := hE.le
  have P := parsed (n := kinds.length) (rows := rs.length) (by omega) (by omega) hP.len hP.z hP.s hl
  have hlen : (colsX kinds rs).length = kinds.length := by simp [colsX]
  have hfit : ∀ i, i < kinds.length → Fit rs.length (colX kinds rs i).1 := fun i hi => hE.fit hr hi (hc i hi)
  refine ⟨⟨⟨by rw [P.nn]; exact h1, by rw [P.nn]; exact h2, by rw [P.nn, hlen], fun i X hX => ?_⟩, by rw [hP.len, hlen], fun i X p hX hp => ?_, ?_⟩, P.r, P.nn, ?_⟩
  · obtain ⟨hi, rfl⟩ := colsX_at hX
    have hip : i < ps.length := by rw [hP.len]; exact hi
    have hff : fromV (kinds.getD i 0) (colL rs i) = ((colX kinds rs i).1, 0) := by
      have : fromV (kinds.getD i 0) (colL rs i) = colX kinds rs i := rfl
      rw [this, ← hc i hi]
    obtain ⟨g1, g2, g3, g4, g5, g6, g7, g8⟩ := from_ok hff
    have hk := (hP.at_ i _ (List.getElem?_eq_getElem hip)).2
    obtain ⟨C, hC, hT⟩ := P.t
    have e : colP (layS l) i (layT l) = ps[i].2.data.toList := by
      unfold colP
      rw [P.s, hT, colR_bd C ps i (by omega)]
      have eg : (ps.map fun p => p.2.size).getD i 0 = ps[i].2.size := by simp [List.getD, List.getElem?_eq_getElem hip]
      have e2 : bdL (ps.drop i) = txt ps[i].2 ++ bdL (ps.drop (i + 1)) := by
        rw [List.drop_eq_getElem_cons hip, bdL, List.flatMap_cons]; rfl
      rw [eg, e2, en_append, List.append_assoc]
      have := (txt_take ps[i].2 (en (bdL (ps.drop (i + 1))) ++ C)).1
      rw [← bs_of ps[i].2] at this
      have h3 := congrArg (fun b : ByteArray => b.data.toList) this
      simp only [bs] at h3
      simpa [bs_of] using h3
    rw [e, P.r]
    exact ⟨kp_un (hfit i hi) g4 hk, (hfit i hi).len⟩
  · obtain ⟨hi, rfl⟩ := colsX_at hX
    exact hP.at_ i p hp
  · rw [hlen, P.r]; exact hl
  · obtain ⟨C, hC, e⟩ := P.w
    have b1 := hdL_len hP.z
    have b2 := bdL_len hP.s
    have b3 := hP.len
    rw [e]
    simp only [List.length_append, en_len, beL_length, hC, List.length_cons, List.length_nil]
    omega
theorem colsX_kinds {kinds : List Int} {rs : List (List Val)} (hc : ∀ j, j < kinds.length → (colX kinds rs j).2 = 0) : (colsX kinds rs).map Vc.k = kinds := by
  refine List.ext_getElem (by simp [colsX]) fun i h1 h2 => ?_
  have hff : fromV (kinds.getD i 0) (colL rs i) = ((colX kinds rs i).1, 0) := by
    have : fromV (kinds.getD i 0) (colL rs i) = colX kinds rs i := rfl
    rw [this, ← hc i h2]
  obtain ⟨g1, g2, _⟩ := from_ok hff
  simp only [colsX, List.getElem_map, List.getElem_range]
  rw [g2]
  simp [List.getD, List.getElem?_eq_getElem h2]
/-- What Build answers. -/
def BuQ (kinds : List Int) (rs : List (List Val)) (w w' : World) (e : Ending) : Prop :=
  ((∃ er : Int, er ≠ 0 ∧ e = .returned (.tuple #[.string ⟨#[]⟩, .int .i64 er])) ∨
   (∃ l ps, e = .returned (.tuple #[.string (bs l), .int .i64 0]) ∧ Seg l (colsX kinds rs) ps ∧ layR l = rs.length ∧ layN l = kinds.length ∧ l.length ≤ 140737488300000 ∧ (colsX kinds rs).map Vc.k = kinds)) ∧ Below w.heap.size w w'
/-- seg.Build, whatever it is given. -/
theorem build_any (w : World) (kinds : List Int) (ak : Option Addr) (ck : Nat) (rs : List (List Val)) (ar : Option Addr) (cr : Nat) (h1 : kinds.length ≤ 140737488355328) (h2 : rs.length ≤ 140737488355328) (h3 : ∀ r ∈ rs, r.length ≤ 140737488355328)
    (hr : ∀ r ∈ rs, ∀ x ∈ r, -9223372036854775808 ≤ x.n ∧ x.n ≤ 9223372036854775807) (hak : LisAt w ak (kinds.map (Value.int .i64))) (har : RowsAt w ar rs) :
    Calls Tryz.prog 5 #[.slice ak kinds.length ck, .slice ar rs.length cr] w fun e w' => BuQ kinds rs w w' e := by
  have C := looks w kinds ak ck rs ar cr h1 h2 h3 hak har
  have no : ∀ {er : Int}, er ≠ 0 → ∀ (e : Ending) (w' : World), (e = .returned (.tuple #[.string ⟨#[]⟩, .int .i64 er]) ∧ Below w.heap.size w w') → BuQ kinds rs w w' e := fun hn e w' h => ⟨.inl ⟨_, hn, h.1⟩, h.2⟩
  by_cases a1 : kinds.length < 1
  · exact (build_a1 w kinds ak ck rs ar cr C a1).mono (no (by decide))
  by_cases a2 : 32 < kinds.length
  · exact (build_a2 w kinds ak ck rs ar cr C a2).mono (no (by decide))
  have b1 : 1 ≤ kinds.length := by omega
  have b2 : kinds.length ≤ 32 := by omega
  cases a3 : kinds.any noKB
  case true => exact (build_a3 w kinds ak ck rs ar cr C b1 b2 a3).mono (no (by decide))
  by_cases a4 : 4096 < rs.length
  · exact (build_b1 w kinds ak ck rs ar cr C b1 b2 a3 a4).mono (no (by decide))
  have b4 : rs.length ≤ 4096 := by omega
  cases a5 : rs.any fun r => r.any largeTB
  case true => exact (build_b2 w kinds ak ck rs ar cr C b1 b2 a3 b4 a5).mono (no (by decide))
  cases a6 : rs.any (oddB kinds.length)
  case true => exact (build_c w kinds ak ck rs ar cr C b1 b2 a3 b4 a5 a6).mono (no (by decide))
  have hE : Even kinds rs := ⟨by simp [okKB, a3, b1, b2], b4, fun r hr' => by
      have := List.any_eq_false.1 a6 r hr'
      simp only [oddB, bne_iff_ne, ne_eq, Classical.not_not] at this
      omega, fun r hr' x hx => by
      have := List.any_eq_false.1 a5 r hr'
      have := List.any_eq_false.1 (by simpa using this) x hx
      simpa using this⟩
  refine (build_d KP zP w kinds ak ck rs ar cr C hak har b1 b2 a3 b4 a5 a6 (fun i hi hc => (hE.fit hr hi hc).law)).mono ?_
  rintro e w' ⟨⟨i, hi, hn, _, rfl⟩ | ⟨hc, ps, rfl, hP⟩, hb⟩
  · exact ⟨.inl ⟨_, hn, rfl⟩, hb⟩
  · have hl : segB kinds.length rs.length ps = bs (segB kinds.length rs.length ps).data.toList := (bs_of _).symm
    obtain ⟨s1, s2, s3, s4⟩ := seg_of hE hr b1 b2 hc hP hl
    exact ⟨.inr ⟨_, ps, by rw [← hl], s1, s2, s3, s4, colsX_kinds hc⟩, hb⟩
end Go.Proofs.YtbdkpkpncmagoaaGreat
set_option linter.unusedSimpArgs false
set_option linter.unusedVariables false
set_option maxRecDepth 100000
namespace Go.Proofs.YtbdkpkpncmagoaaGreat
open Go.RowKit Go.Sort

/-- append([]int{}, l...). -/
theorem copyI2 (W : World) (a : Option Addr) (c : Nat) (xs : List Int) (h : LisAt W a (xs.map (.int .i64))) (hn : a = none → c = 0) (hl : xs.length ≤ 4194304) : ∃ a' c' w', (Builtin.append_ #[22, 22] 22 #[.slice (some ⟨W.heap.size, 0, none⟩) 0 0, .slice a xs.length c]).run Tryz.prog (W.alloc (.cells #[] 3)) = .ok (.slice a' xs.length c') w' ∧ w'.ownsRow W.heap.size 3 1 (.slice a' xs.length c') xs.length (xs.map (.int .i64)) ∧ Below W.heap.size W w' := by
  obtain ⟨T, w', hr, ho, hb⟩ := copy_okI W xs.length c a (xs.map (.int .i64)) 22 (by simp) (by
    have := lis_cells h
    simpa using this) (fun u hu => by obtain ⟨y, _, rfl⟩ := List.mem_map.1 hu; rfl) hn hl
  obtain ⟨a', c', hT⟩ := own_slice ho
  subst hT
  exact ⟨a', c', w', hr, ho, hb⟩
/-- What Build answers, as one. -/
def BuA (kinds : List Int) (rs : List (List Val)) (w : World) (e : Ending) (w' : World) : Prop :=
  ∃ (s : ByteArray) (er : Int), e = .returned (.tuple #[.string s, .int .i64 er]) ∧ Hid ((er ≠ 0 ∧ s = ⟨#[]⟩) ∨ (er = 0 ∧ ∃ l ps, s = bs l ∧ Seg l (colsX kinds rs) ps ∧ layR l = rs.length ∧ layN l = kinds.length ∧ l.length ≤ 140737488300000 ∧ (colsX kinds rs).map Vc.k = kinds)) ∧ Below w.heap.size w w'
theorem BuQ.one {kinds : List Int} {rs : List (List Val)} {w w' : World} {e : Ending} (h : BuQ kinds rs w w' e) : BuA kinds rs w e w' := by
  obtain ⟨⟨er, hn, rfl⟩ | ⟨l, ps, rfl, h⟩, hb⟩ := h
  · exact ⟨_, er, rfl, .inl ⟨hn, rfl⟩, hb⟩
  · exact ⟨_, 0, rfl, .inr ⟨rfl, l, ps, rfl, h⟩, hb⟩
/-- Build of one kind and no rows is well. -/
theorem build_one (w : World) (b : Nat) (h : w.cell? ⟨b, 0, none⟩ = some (.int .i64 1)) : Calls Tryz.prog 5 #[.slice (some ⟨b, 0, none⟩) 1 1, .slice none 0 0] w fun e w' => ∃ t, e = .returned (.tuple #[.string t, .int .i64 0]) ∧ Below w.heap.size w w' := by
  have hak : LisAt w (some ⟨b, 0, none⟩) (([1] : List Int).map (Value.int .i64)) := .inr ⟨b, 0, rfl, fun i x hx => by
    match i, hx with
    | 0, hx => simp at hx; subst hx; exact h
    | i + 1, hx => simp at hx⟩
  have har : RowsAt w none ([] : List (List Val)) := .inl rfl
  have C := looks w [1] (some ⟨b, 0, none⟩) 1 [] none 0 (by decide) (by decide) (fun r hr => by simp at hr) hak har
  have hE : Even [1] [] := ⟨by decide, by decide, fun r hr => by simp at hr, fun r hr => by simp at hr⟩
  have h0 : (colX [1] [] 0).2 = 0 := by decide
  refine (build_d KP zP w [1] (some ⟨b, 0, none⟩) 1 [] none 0 C hak har (by decide) (by decide) (by decide) (by decide) (by decide) (by decide) (fun i hi hc => (hE.fit (fun r hr => by simp at hr) hi hc).law)).mono ?_
  rintro e w' ⟨⟨i, hi, hn, _, rfl⟩ | ⟨hc, ps, rfl, hP⟩, hb⟩
  · have : i = 0 := by have : i < 1 := hi; omega
    subst this
    exact absurd h0 hn
  · exact ⟨_, rfl, hb⟩
end Go.Proofs.YtbdkpkpncmagoaaGreat

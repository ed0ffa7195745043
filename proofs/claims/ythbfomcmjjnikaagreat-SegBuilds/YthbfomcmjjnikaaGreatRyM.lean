import Derived.Test.YthbfomcmjjnikaaGreatRefH
import Derived.Test.YthbfomcmjjnikaaGreatRdK
set_option linter.unusedSimpArgs false
set_option linter.unusedVariables false
namespace Go.Proofs.YthbfomcmjjnikaaGreat
open Go.RowKit Go.Sort

def Rng (x : Val) : Prop := -9223372036854775808 ≤ x.n ∧ x.n ≤ 9223372036854775807
theorem rng_num (k : Nat) : Rng (.num (sint k)) := ⟨wrap64_lo _, wrap64_hi _⟩
theorem rng_str (s : ByteArray) : Rng (.str s) := ⟨by show -9223372036854775808 ≤ (0 : Int); decide, by show (0 : Int) ≤ 9223372036854775807; decide⟩
theorem rng_null : Rng .null := ⟨by show -9223372036854775808 ≤ (0 : Int); decide, by show (0 : Int) ≤ 9223372036854775807; decide⟩
theorem plainR_rng (kind : Int) (l : List UInt8) (bad : Bool) : Rng (plainR kind l bad).1 := by
  unfold plainR
  split
  · exact rng_num _
  · exact rng_str _
theorem plainsR_rng (kind : Int) (l : List UInt8) (bad : Bool) : ∀ (k : Nat), ∀ x ∈ (plainsR kind l bad k).1, Rng x
  | 0 => fun x hx => by cases hx
  | k + 1 => fun x hx => by
    rw [plainsR] at hx
    split at hx
    · exact plainsR_rng kind l bad k x hx
    · rcases List.mem_append.1 hx with h | h
      · exact plainsR_rng kind l bad k x h
      · rw [List.mem_singleton.1 h]; exact plainR_rng _ _ _
theorem runsR_rng (kind : Int) (m : Nat) (l : List UInt8) (bad : Bool) : ∀ (k : Nat), ∀ x ∈ (runsR kind m l bad k).1, Rng x
  | 0 => fun x hx => by cases hx
  | k + 1 => fun x hx => by
    rw [runsR] at hx
    split at hx
    · exact runsR_rng kind m l bad k x hx
    · rcases List.mem_append.1 hx with h | h
      · exact runsR_rng kind m l bad k x h
      · rw [List.eq_of_mem_replicate h]; exact plainR_rng _ _ _
theorem pickW_rng {ws : List Val} {ks : List Nat} (h : ∀ x ∈ ws, Rng x) : ∀ x ∈ pickW ws ks, Rng x := by
  intro x hx
  unfold pickW at hx
  obtain ⟨k, _, rfl⟩ := List.mem_map.1 hx
  rw [List.getD_eq_getElem?_getD]
  cases hk : ws[k]? with
  | none => exact rng_null
  | some y => exact h y (List.mem_of_getElem? hk)
theorem standQ_rng (sch : Nat) (kind : Int) (m : Nat) (l : List UInt8) (bad : Bool) : ∀ x ∈ (standQ sch kind m l bad).1, Rng x := by
  unfold standQ
  split
  · exact plainsR_rng _ _ _ _
  · split
    · exact runsR_rng _ _ _ _ _
    · split
      · exact pickW_rng (plainsR_rng _ _ _ _)
      · unfold offsQ
        split
        · intro x hx; cases hx
        · intro x hx
          obtain ⟨k, _, rfl⟩ := List.mem_map.1 hx
          exact rng_num _
theorem spread_rng : ∀ (nl : List Bool) (vs : List Val), (∀ x ∈ vs, Rng x) → ∀ x ∈ spreadL nl vs, Rng x
  | [], _, _ => fun x hx => by cases hx
  | true :: nl, vs, h => fun x hx => by
    rw [spreadL] at hx
    rcases List.mem_cons.1 hx with rfl | hx
    · exact rng_null
    · exact spread_rng nl vs h x hx
  | false :: nl, vs, h => fun x hx => by
    rw [spreadL] at hx
    rcases List.mem_cons.1 hx with rfl | hx
    · cases vs with
      | nil => exact rng_null
      | cons y vs => exact h y (List.mem_cons_self ..)
    · exact spread_rng nl vs.tail (fun y hy => h y (List.mem_of_mem_tail hy)) x hx
/-- The nulls by the document's reader. -/
def nulQ (z n : Nat) (tl : List UInt8) : List Nat × List UInt8 × Bool :=
  if z = 1 then (bitsL (takeR tl false (bytesN n 1)).1 (takeR tl false (bytesN n 1)).2.2 1 n, (takeR tl false (bytesN n 1)).2) else (List.replicate n 0, tl, false)
theorem numD1_cons {l l1 : List UInt8} {m : Nat} (h : numD 1 l = some (m, l1)) : ∃ c, l = c :: l1 ∧ m = c.toNat := by
  obtain ⟨g1, rfl, rfl⟩ := numD_some h
  cases l with
  | nil => simp at g1
  | cons c t => exact ⟨c, rfl, by simp [beV]⟩
theorem numD4_cons {l l1 : List UInt8} {m : Nat} (h : numD 4 l = some (m, l1)) : ∃ a b c d, l = a :: b :: c :: d :: l1 ∧ m = beV [a, b, c, d] := by
  obtain ⟨g1, rfl, rfl⟩ := numD_some h
  match l, g1 with
  | a :: b :: c :: d :: t, _ => exact ⟨a, b, c, d, rfl, rfl⟩
theorem map_zero (n : Nat) : (List.replicate n 0).map (fun k : Nat => k == 1) = List.replicate n false := by simp
theorem nulQ_of {n : Nat} {l r : List UInt8} {nl : List Bool} (h : nullsD n l = some (nl, r)) : ∃ z tl, l = z :: tl ∧ z.toNat ≤ 1 ∧ (nulQ z.toNat n tl).2 = (r, false) ∧ (nulQ z.toNat n tl).1.map (· == 1) = nl := by
  unfold nullsD at h
  cases hn : numD 1 l with
  | none => rw [hn] at h; cases h
  | some p =>
    obtain ⟨zz, tl⟩ := p
    rw [hn, Option.bind_some] at h
    obtain ⟨z, rfl, e⟩ := numD1_cons hn
    subst e
    simp only at h
    split at h
    · rename_i h0
      injection h with h; injection h with h1 h2
      subst h1; subst h2
      refine ⟨z, tl, rfl, by omega, ?_, ?_⟩
      · unfold nulQ; rw [if_neg (by omega)]
      · unfold nulQ; rw [if_neg (by omega)]; exact map_zero n
    · split at h
      · rename_i h1
        cases hb : bitsD n 1 tl with
        | none => rw [hb] at h; cases h
        | some q =>
          obtain ⟨t, r'⟩ := q
          rw [hb, Option.bind_some] at h
          have e := (ite_some h).2
          injection e with e1 e2
          simp only at e1 e2
          subst e2
          have e3 := bitsR_of hb
          refine ⟨z, tl, rfl, by omega, ?_, ?_⟩
          · unfold nulQ; rw [if_pos h1, e3]
          · unfold nulQ; rw [if_pos h1, e3]; exact e1
      · cases h
/-- What is a column has such a head, and is read so. -/
theorem column_head {l : List UInt8} {sch : Nat} {kind : Int} {xs : List Val} (h : columnD l = some (sch, kind, xs)) :
    ∃ c0 c1 n0 n1 n2 n3 z tl, l = c0 :: c1 :: n0 :: n1 :: n2 :: n3 :: z :: tl ∧ sch = c0.toNat ∧ kind = (c1.toNat : Int) ∧ (1 ≤ c0.toNat ∧ c0.toNat ≤ 4) ∧ (c1.toNat = 1 ∨ c1.toNat = 2) ∧ beV [n0, n1, n2, n3] ≤ 4096 ∧ z.toNat ≤ 1 ∧
      ∃ r vs, (nulQ z.toNat (beV [n0, n1, n2, n3]) tl).2 = (r, false) ∧ standQ sch kind (((nulQ z.toNat (beV [n0, n1, n2, n3]) tl).1.map (· == 1)).count false) r false = (vs, [], false) ∧ vs.length = ((nulQ z.toNat (beV [n0, n1, n2, n3]) tl).1.map (· == 1)).count false ∧ xs = spreadL ((nulQ z.toNat (beV [n0, n1, n2, n3]) tl).1.map (· == 1)) vs := by
  obtain ⟨b, _, _, hs1, hs4, _⟩ := columnD_forth h
  obtain ⟨l1, kd, l2, n, l3, nl, l4, vs, h1, h2, rfl, hk, h3, hn, h4, h5, rfl⟩ := columnD_some h
  obtain ⟨c0, rfl, rfl⟩ := numD1_cons h1
  obtain ⟨c1, rfl, rfl⟩ := numD1_cons h2
  obtain ⟨n0, n1, n2, n3, rfl, rfl⟩ := numD4_cons h3
  obtain ⟨z, tl, rfl, hz, e1, e2⟩ := nulQ_of h4
  exact ⟨c0, c1, n0, n1, n2, n3, z, tl, rfl, rfl, rfl, ⟨hs1, hs4⟩, hk, hn, hz, l4, vs, e1, by rw [e2]; exact standQ_of h5, by rw [e2]; exact valuesD_len h5, by rw [e2]⟩
/-- What Unpack answers. -/
def UnR (l : List UInt8) (X : Vc) (f : Int) : Prop :=
  (f = 0 ∧ (∃ sch, columnD l = some (sch, X.k, valsV X)) ∧ fromV X.k (valsV X) = (X, 0) ∧ X.nl.length ≤ 4096 ∧ X.ns.length ≤ 4096 ∧ X.ss.length ≤ 4096) ∨ (f = 2 ∧ X = .zero ∧ columnD l = none)
theorem none_of {l : List UInt8} (h : ∀ sch kind xs, columnD l = some (sch, kind, xs) → False) : columnD l = none := by
  cases hc : columnD l with
  | none => rfl
  | some p => exact absurd hc (fun e => h p.1 p.2.1 p.2.2 e)
theorem bs_list (l : List UInt8) : (bs l).data.toList = l := rfl
theorem bs_of (s : ByteArray) : bs s.data.toList = s := by cases s; simp [bs]
end Go.Proofs.YthbfomcmjjnikaaGreat
set_option linter.unusedSimpArgs false
set_option linter.unusedVariables false
namespace Go.Proofs.YthbfomcmjjnikaaGreat
open Go.RowKit Go.Sort

theorem RowAt.app {w3 wr w5 : World} {a : Option Addr} {xs : List Val} {v : Value} {vs : List Val} {o : Obj} (h3 : RowAt w3 a xs) (h : RowAt wr a xs) (ho : OwnV wr w3.heap.size v vs) (hg : (wr.alloc o).grownBy w5 v.ownBlock) : RowAt w5 a xs := by
  rcases h3 with h3 | ⟨b, off, ha, h3⟩
  · exact .inl h3
  · cases xs with
    | nil => exact .inl rfl
    | cons x xs =>
      have hb : b < w3.heap.size := World.block_lt_of_cell? _ _ (h3 0 x rfl).1
      refine RowAt.grow (h.later (below_alloc (Below.refl _ wr) o)) hg (fun ad e => ?_)
      rw [ha] at e
      injection e with e
      subst e
      intro e2
      have := (World.ownsRow.lt ho b e2.symm).1
      omega
set_option maxHeartbeats 1000000 in
set_option maxRecDepth 100000 in
theorem stand3_any {b m : Nat} {kind : Int} {l a l1 l2 t r : List UInt8} {ws : List Val} {bad x1 x2 x3 : Bool} {w : World} (hk : kind = 1 ∨ kind = 2) (hm : m ≤ 4096) (h : Br w b l bad) (hl : l.length ≤ 140737488355328)
    (ha : takeR l bad 2 = (a, l1, x1)) (hws : plainsR kind l1 x1 (beV a) = (ws, l2, x2)) (ht : takeR l2 x2 (bytesN m (bl (ws.length - 1))) = (t, r, x3)) :
    Calls Tryz.prog 67 #[.pointer (some ⟨b, 0, none⟩), .int .i64 3, .int .i64 kind, .int .i64 m] w fun e w' => StandR w w' e b (pickW ws (bitsL t x3 (bl (ws.length - 1)) m), r, x3 || badW9 ws (bitsL t x3 (bl (ws.length - 1)) m)) := by
  obtain ⟨i4, hi4, z40, z41, z42⟩ := info_parts Tryz.info59
  have hb0 := h.ne
  have hal : a.length ≤ 2 := by have := (takeR_len l bad 2).1; rw [ha] at this; exact this
  have hl1 : l1.length ≤ l.length := by have := (takeR_len l bad 2).2; rw [ha] at this; exact this
  have HA := hide (rtake_to h hl (by decide) ha)
  have HNA := hide (fun W => rnumber_any a (by omega) W)
  have hnb : beV a < 65536 := by
    have h1 := beV_lt a
    have h3 : 256 ^ a.length ≤ 256 ^ 2 := Nat.pow_le_pow_right (by decide) hal
    have h4 : (256 : Nat) ^ 2 = 65536 := by decide
    omega
  have hpl := plainsR_len kind l1 x1 (beV a)
  rw [hws] at hpl
  obtain ⟨hwl, hl2⟩ := hpl
  replace hwl : ws.length ≤ beV a := hwl
  replace hl2 : l2.length ≤ l1.length := hl2
  have hd16 : bl (ws.length - 1) ≤ 16 := bl_le (by have : (2:Nat)^16 = 65536 := by decide
                                                   omega)
  have HBI := hide (fun W (hW : Br W b l2 x2) => brbits_any hm (by omega : bl (ws.length - 1) ≤ 64) hW (by omega) ht)
  have HWD := hide (fun W => rwidth_any (ws.length - 1) W (by omega))
  have HLT := hide (bitsL_lt2 (t := t) (x := x3) (n := m) (d := bl (ws.length - 1)))
  have HLE := hide (bitsL_len t x3 (bl (ws.length - 1)) m)
  have HWS := hide hws
  generalize bitsL t x3 (bl (ws.length - 1)) m = ks at *
  generalize hdd : bl (ws.length - 1) = d at *
  generalize beV a = n at *
  obtain ⟨R, hR⟩ : ∃ R, R = (pickW ws ks, r, x3 || badW9 ws ks) := ⟨_, rfl⟩
  rw [← hR]
  have HRR := hide hR
  clear hR h ha hal ht hws hdd
  go_enter Tryz.func67, Tryz.ntmps67
  go_wp2_with (first
    | (go_at_call 39; refine (unhide HA).mono ?_; rintro e w1 ⟨rfl, hr1, hg1⟩)
    | (go_at_call 40; refine (unhide HNA _).mono ?_; rintro e wn ⟨rfl, rfl⟩))
  go_loopw [15, 16] (fun v i wr => ∃ (k j : Nat) (vs : List Val) (r : List UInt8) (x : Bool), k + j = n ∧ i = .int .i64 (j : Int) ∧ Hid (plainsR kind l1 x1 k = (vs, r, x)) ∧ OwnV wr w.heap.size v vs ∧ Br wr b r x ∧ Gr w wr b) (fun _ i _ => (intOf i).toNat)
  case atStart => exact ⟨0, n, [], l1, x1, by omega, rfl, rfl, ⟨rfl, .inl ⟨rfl, rfl⟩⟩, hr1, hg1⟩
  case round =>
    obtain ⟨k, j, vs, rr, x, hkn, rfl, HP, ho, hr, hg⟩ := hrel
    have hln := plainsR_len kind l1 x1 k
    rw [unhide HP] at hln
    obtain ⟨hvl, hrl⟩ := hln
    replace hvl : vs.length ≤ k := hvl
    replace hrl : rr.length ≤ l1.length := hrl
    obtain ⟨c0, c1, f0, f1⟩ := hr.facts
    have hcase : (x = false ∧ 0 < j) ∨ (j = 0 ∨ (0 < j ∧ x = true)) := by
      cases x
      · by_cases hj : j = 0
        · exact .inr (.inl hj)
        · exact .inl ⟨rfl, by omega⟩
      · by_cases hj : j = 0
        · exact .inr (.inl hj)
        · exact .inr (.inr ⟨by omega, rfl⟩)
    rcases hcase with ⟨rfl, hj⟩ | hex
    · have h9 : (0 : Int) < (j : Int) := by omega
      have HN := hide (plainsR_step (unhide HP))
      have HC := hide (rplain_any (bad := false) hk hr (by omega))
      have HG := hide hg
      have HO := hide ho
      have hsz := hg.size
      have HVL := hide hvl
      generalize hq : plainR kind rr false = q at *
      obtain ⟨y, r2, x4⟩ := q
      have HNN : Hid (plainsR kind l1 x1 (k + 1) = (vs ++ [y], r2, x4)) := by
        show _ = _
        exact unhide HN
      clear hg ho hr hvl hrl hq HN
      dsimp only at HC
      go_wp2_with (first
        | (go_at_call 90; refine (unhide HC).mono ?_; rintro e w2 ⟨rfl, hr2, hg2⟩; rw [Val.open_]; have ho2 := (unhide HO).gr hg2 hb0; have hG2 := (unhide HG).trans hg2; have hsz2 := hg2.size)
        | (at_builtin; refine wpList_append_own_at _ rfl (.tmp 100) (.tmp 104) 37 rfl w.heap.size 59 i4 (.agg #[.int .i64 0, .int .i64 0, .string ⟨#[]⟩]) 3 32 Tryz.underlying37 hi4 z40 z41 z42 rfl (by decide) _ _ _ rfl (World.ownsRow.alloc ho2 _) ⟨w2.heap.size, 0, none⟩ 1 1 (c3 y) rfl rfl (cells3_new w2 y) (c3_one _) (by have := unhide HVL; unfold maxLen; omega) (by have := unhide HVL; omega) (by simp; omega) ?_; intro v1 w3 hown1 hgrow1 _ hat1; have ho3 := ownV_app hown1))
      refine ⟨⟨k + 1, j - 1, vs ++ [y], r2, x4, by omega, by go_num, HNN, ho3, hr2.app ho2 hb0 hgrow1, hG2.app ho2 hgrow1⟩, by simp [intOf]; omega⟩
    · have hE : vs = ws ∧ rr = l2 ∧ x = x2 := by
        have e1 : plainsR kind l1 x1 n = (vs, rr, x) := by
          rcases hex with hj | ⟨hj, hx⟩
          · have : k = n := by omega
            rw [← this]; exact unhide HP
          · subst hx
            exact plainsR_stuck (unhide HP) n (by omega)
        rw [unhide HWS] at e1
        injection e1 with e1 e2
        injection e2 with e2 e3
        exact ⟨e1.symm, e2.symm, e3.symm⟩
      obtain ⟨e1, e2, e3⟩ := hE
      subst e1 e2 e3
      obtain ⟨aw, cw, rfl, hcw, hnw, hrw⟩ := ownV_slice ho
      have hw16 : vs.length < 65536 := by omega
      have HRW := hide hrw
      have HOW := hide ho
      have HG := hide hg
      have HR := hide hr
      clear hrw hg hr ho hvl hrl HP hcw hnw
      have HWM : Hid (∀ W, Calls Tryz.prog 87 #[.int .u64 (max (vs.length : Int) 1 - 1)] W fun e w' => e = .returned (.int .i64 (d : Int)) ∧ w' = W) := fun W => by
        rw [show max (vs.length : Int) 1 - 1 = ((vs.length - 1 : Nat) : Int) by omega]
        exact unhide HWD W
      have hz0 : w.heap.size ≤ wr.heap.size := (unhide HG).size
      have h10 : ((0 : Nat) : Int) = 0 := rfl
      rcases hex with rfl | ⟨hj, rfl⟩
      all_goals
        first | (have h9 : (0 : Int) < (j : Int) := by omega) | skip
        go_wp2_with (first
          | (go_at_call 87; refine (unhide HWM _).mono ?_; rintro e wz ⟨rfl, rfl⟩)
          | (go_at_call 66; refine (unhide HBI _ (unhide HR)).mono ?_; rintro e w3 ⟨g, rfl, ho3, hgl3, hr3, hg3⟩))
        have HG3 := hide ((unhide HG).trans hg3)
        have hbg : b ≠ g := by omega
        have hgw3 : g < w3.heap.size := ho3.lt
        have HO3 := hide ho3
        have HR3 := hide hr3
        have HRW3 : Hid (RowAt w3 aw vs) := (unhide HRW).grow hg3 (fun ad e => by
          subst e
          intro e2
          injection e2 with e2
          have := (World.ownsRow.lt (unhide HOW) ad.block rfl).1
          omega)
        have hz3 : w.heap.size ≤ w3.heap.size := (unhide HG3).size
        clear hr3 hg3 ho3
        go_loopw [9, 116] (fun v i wr => ∃ k : Nat, k ≤ m ∧ i = .int .i64 (k : Int) ∧ (∀ q ∈ ks.take k, q < vs.length) ∧ OwnV wr w3.heap.size v ((ks.take k).map fun k => vs.getD k .null) ∧ wr.rowIs g 73 m (u64F ks) ∧ Br wr b r x3 ∧ Gr w wr b ∧ RowAt wr aw vs ∧ w3.heap.size ≤ wr.heap.size) (fun _ i _ => m - (intOf i).toNat)
        case atStart => exact ⟨0, Nat.zero_le _, rfl, (fun q hq => by cases hq), ⟨rfl, .inl ⟨rfl, rfl⟩⟩, unhide HO3, unhide HR3, unhide HG3, unhide HRW3, Nat.le_refl _⟩
        case round =>
          obtain ⟨k, hkm, rfl, hall, ho, hrow, hr, hg, hrw, hzz⟩ := hrel
          by_cases hlt : k < m
          · have h9 : (k : Int) < (m : Int) := by omega
            obtain ⟨y, hy⟩ : ∃ y, ks[k]? = some y := ⟨_, List.getElem?_eq_getElem (by rw [unhide HLE]; exact hlt)⟩
            have hyb := unhide HLT y (List.mem_of_getElem? hy)
            have hyb2 : y < 65536 := by
              have h2 : 2 ^ d ≤ 2 ^ 16 := Nat.pow_le_pow_right (by decide) hd16
              have h3 : (2 : Nat) ^ 16 = 65536 := by decide
              omega
            have cy : wr.cell? ⟨g, k, none⟩ = some (.int .u64 (y : Int)) := by
              have := World.rowIs.cell hrow hlt
              simpa [u64F, List.getD_eq_getElem?_getD, hy] using this
            obtain ⟨c0, c1, f0, f1⟩ := hr.facts
            by_cases hyw : y < vs.length
            · have hyi : ¬ (vs.length : Int) ≤ (y : Int) := by omega
              obtain ⟨x, hx⟩ : ∃ x, vs[y]? = some x := ⟨_, List.getElem?_eq_getElem hyw⟩
              obtain ⟨vb, vo, rfl, d0, d1, d2⟩ := hrw.lo hx
              have HN := hide (getDs_next hy hx)
              have HVL : Hid (((ks.take k).map fun k => vs.getD k .null).length ≤ 4096) := by
                show _ ≤ _
                rw [List.length_map, List.length_take, unhide HLE]; omega
              have HALL : Hid (∀ q ∈ ks.take (k + 1), q < vs.length) := by
                obtain ⟨g1, g2⟩ := List.getElem?_eq_some_iff.1 hy
                intro q hq
                rw [List.take_succ_eq_append_getElem g1, List.mem_append] at hq
                rcases hq with hq | hq
                · exact hall q hq
                · rw [List.mem_singleton.1 hq, g2]; exact hyw
              have HKP := hide (⟨ho, hrow, hr, hg, hrw⟩ : OwnV wr w3.heap.size u9 ((ks.take k).map fun k => vs.getD k .null) ∧ wr.rowIs g 73 m (u64F ks) ∧ Br wr b r x3 ∧ Gr w wr b ∧ RowAt wr (some ⟨vb, vo, none⟩) vs)
              have hsz := (World.rowIs.lt hrow)
              generalize hvs : ((ks.take k).map fun k => vs.getD k .null) = us at *
              clear ho hrow hr hg hy hvs hall hrw hyb
              go_wp2_with (
                (at_builtin; refine wpList_append_own_at _ rfl (.tmp 128) (.tmp 133) 37 rfl w3.heap.size 59 i4 (.agg #[.int .i64 0, .int .i64 0, .string ⟨#[]⟩]) 3 32 Tryz.underlying37 hi4 z40 z41 z42 rfl (by decide) _ _ _ rfl (World.ownsRow.alloc (unhide HKP).1 _) ⟨wr.heap.size, 0, none⟩ 1 1 (c3 x) rfl rfl (cells3_new wr x) (c3_one _) (by have := unhide HVL; unfold maxLen; omega) (by have := unhide HVL; omega) (by simp; omega) ?_; intro v1 w5 hown1 hgrow1 _ hat1; have ho5 := ownV_app hown1))
              obtain ⟨ho, hrow, hr, hg, hrw⟩ := unhide HKP
              have hz5 := hgrow1.size
              refine ⟨⟨k + 1, by omega, by go_num, unhide HALL, by rw [unhide HN]; exact ho5, ?_, ?_, ?_, ?_, ?_⟩, by simp [intOf]; omega⟩
              · exact rowIs_grown (World.rowIs.alloc hrow _) hgrow1 (own_ne hrow ho (by decide))
              · exact Br.app hr ho (by omega) hgrow1
              · exact hg.app (own_base ho hz3) hgrow1
              · exact RowAt.app (unhide HRW3) hrw ho hgrow1
              · simp at hz5; omega
            · have hyi : (vs.length : Int) ≤ (y : Int) := by omega
              have HE : Hid (StandR w (wr.setCell ⟨b, 1, none⟩ (.bool true)) (.returned u9) b R) := by
                obtain ⟨e1, e2⟩ := pick_part hall hy hyw
                refine ⟨u9, rfl, ?_, ?_, ?_⟩
                · rw [unhide HRR, e1]; exact OwnV.gr (own_base ho hz3) (grown_set _ _ _ _) hb0
                · rw [unhide HRR, e2, Bool.or_true]; exact hr.bad true
                · exact hg.trans (grown_set wr b 1 _)
              clear ho hrow hr hg hy hall hrw hyb
              go_wp2
              go_ret
              exact unhide HE
          · have h9 : ¬ (k : Int) < (m : Int) := by omega
            have ek : k = m := by omega
            have etk : ks.take k = ks := List.take_of_length_le (by rw [unhide HLE]; omega)
            rw [etk] at ho hall
            have HE : Hid (StandR w wr (.returned u9) b R) := by
              obtain ⟨e1, e2⟩ := pick_all hall
              refine ⟨u9, rfl, ?_, ?_, hg⟩
              · rw [unhide HRR, e1]; exact own_base ho hz3
              · rw [unhide HRR, e2, Bool.or_false]; exact hr
            clear ho hrow hr hg etk hall hrw ek
            go_wp2
            go_ret
            exact unhide HE
end Go.Proofs.YthbfomcmjjnikaaGreat
set_option linter.unusedSimpArgs false
set_option linter.unusedVariables false
namespace Go.Proofs.YthbfomcmjjnikaaGreat
open Go.RowKit Go.Sort

/-- Standing, by any scheme. -/
theorem standQ_any {b m : Nat} {sch : Nat} {kind : Int} {l : List UInt8} {bad : Bool} {w : World} (hs : 1 ≤ sch ∧ sch ≤ 4) (hk : kind = 1 ∨ kind = 2) (hm : m ≤ 4096) (h : Br w b l bad) (hl : l.length ≤ 140737488355328) :
    Calls Tryz.prog 67 #[.pointer (some ⟨b, 0, none⟩), .int .i64 (sch : Int), .int .i64 kind, .int .i64 m] w fun e w' => StandR w w' e b (standQ sch kind m l bad) := by
  have h4 : sch = 1 ∨ sch = 2 ∨ sch = 3 ∨ sch = 4 := by omega
  rcases h4 with rfl | rfl | rfl | rfl
  · exact stand1_any b m kind l bad w hk hm h hl
  · exact stand2_any b m kind l bad w hk hm h hl
  · exact stand3_any hk hm h hl rfl rfl rfl
  · exact stand4_any b m kind l bad w hm h hl
theorem ks_count {ks : List Nat} (h : ∀ k ∈ ks, k < 2) {k y : Nat} (hy : ks[k]? = some y) : (((ks.take (k + 1)).map (· == 1)).count false : Int) = ((ks.take k).map (· == 1)).count false + (1 - (y : Int)) := by
  obtain ⟨h1, rfl⟩ := List.getElem?_eq_some_iff.1 hy
  have h2 := h _ (List.getElem_mem h1)
  rw [List.take_succ_eq_append_getElem h1, List.map_append, List.count_append]
  generalize ks[k] = z at *
  have : z = 0 ∨ z = 1 := by omega
  rcases this with rfl | rfl <;> simp
theorem nulQ_facts (z n : Nat) (tl : List UInt8) : (nulQ z n tl).1.length = n ∧ (∀ k ∈ (nulQ z n tl).1, k < 2) ∧ (nulQ z n tl).2.1.length ≤ tl.length := by
  unfold nulQ
  split
  · exact ⟨bitsL_len _ _ _ _, fun k hk => bitsL_lt2 k hk, (takeR_len _ _ _).2⟩
  · exact ⟨by simp, fun k hk => by rw [List.eq_of_mem_replicate hk]; decide, Nat.le_refl _⟩
end Go.Proofs.YthbfomcmjjnikaaGreat

import Derived.Test.YtjnggnhgambmkaaGreatPackV
import Derived.Test.YtjnggnhgambmkaaGreatPackW
import Derived.Test.YtjnggnhgambmkaaGreatPackI
set_option linter.unusedSimpArgs false
set_option linter.unusedVariables false
namespace Go.Proofs.YtjnggnhgambmkaaGreat
open Go.RowKit Go.Sort

theorem own_mono {w : World} {b b' e s n : Nat} {v : Value} {xs : List Value} (h : w.ownsRow b e s v n xs) (hb : b' ≤ b) : w.ownsRow b' e s v n xs := by
  refine ⟨h.1, ?_⟩
  rcases h.2 with h1 | ⟨g, cap, cur, e1, h2, rest⟩
  · exact .inl h1
  · exact .inr ⟨g, cap, cur, e1, Nat.le_trans hb h2, rest⟩
/-- What stands ahead of the values. -/
def headB (sch kd : Nat) (xs : List Val) : List Int := ((beL (sch : Int) 1 1 ++ beL (kd : Int) 1 1) ++ beL (xs.length : Int) 4 4) ++ nullsL xs
/-- The values' bytes by a scheme. -/
def BodyB (sch : Nat) (ys : List Val) (b : List Int) : Prop :=
  (sch = 1 ∧ b = plains ys) ∨ (sch = 2 ∧ b = beL (runsN ys.length ys : Int) 4 4 ++ runsB ys.length ys) ∨ (sch = 3 ∧ ∃ W, WordsOf ys W ∧ b = wordsB W ys) ∨ (sch = 4 ∧ b = offsB (leastI ys) ys)
/-- The bytes that are written so far; the values stand as they did. -/
def St (w : World) (b0 : Nat) (vv : Value) (xs : List Val) (W : World) (v : Value) (zs : List Int) : Prop := OwnB W w.heap.size v zs ∧ Below w.heap.size w W ∧ OwnV W b0 vv xs
theorem St.grew {w : World} {b0 : Nat} {vv : Value} {xs : List Val} {W W' : World} {v v' : Value} {zs zs' : List Int} (h : St w b0 vv xs W v zs) (hO : OwnB W' w.heap.size v' zs') (hg : Grew W W' v v') : St w b0 vv xs W' v' zs' :=
  ⟨hO, h.2.1.trans (hg.below h.2.1.size fun g e => (ownB_lt h.1 e).1), h.2.2.grew hg (ownB_ownV_ne h.1 h.2.2)⟩
theorem St.num {w : World} {b0 : Nat} {vv : Value} {xs : List Val} {W : World} {v : Value} {zs : List Int} (h : St w b0 vv xs W v zs) (U : Int) (n : Nat) (hn : n ≤ 8) (hz : zs.length ≤ 1000) :
    Calls Tryz.prog 44 #[v, .int .u64 U, .int .i64 n] W fun e w' => ∃ v', e = .returned v' ∧ St w b0 vv xs w' v' (zs ++ beL U n n) :=
  (appnum_any w.heap.size zs U n v W hn h.1 (by omega) h.2.1.size).mono fun e w' ⟨v', he, h1, h2⟩ => ⟨v', he, h.grew h1 h2⟩
theorem nulls_len (xs : List Val) (h : xs.length ≤ 4096) : (nullsL xs).length ≤ 520 := by
  unfold nullsL
  split
  · rw [List.length_append, beL_len, leB_len]
    unfold bytesN
    omega
  · rw [beL_len]; omega
theorem nulls_st {w : World} {b0 : Nat} {aa : Option Addr} {ca : Nat} {xs : List Val} {W : World} {v : Value} {zs : List Int} (h : St w b0 (.slice aa xs.length ca) xs W v zs) (hl : xs.length ≤ 4096) (hz : zs.length ≤ 1000) :
    Calls Tryz.prog 45 #[v, .slice aa xs.length ca] W fun e w' => ∃ v', e = .returned v' ∧ St w b0 (.slice aa xs.length ca) xs w' v' (zs ++ nullsL xs) := by
  obtain ⟨a1, c1, e1, _, _, hr⟩ := ownV_slice h.2.2
  injection e1 with e1 _ e2
  subst e1 e2
  exact (apnulls_any w.heap.size zs aa ca xs v W h.1 (by omega) hl h.2.1.size hr).mono fun e w' ⟨v', he, h1, h2⟩ => ⟨v', he, h.grew h1 h2⟩
theorem clone_st {w : World} {b0 : Nat} {aa : Option Addr} {ca : Nat} {xs : List Val} {W : World} {v : Value} {zs : List Int} (h : St w b0 (.slice aa xs.length ca) xs W v zs) (hl : xs.length ≤ 4096) :
    Calls Tryz.prog 47 #[.slice aa xs.length ca] W fun e w' => ∃ v', e = .returned v' ∧ OwnB w' w.heap.size v zs ∧ Below w.heap.size w w' ∧ OwnV w' w.heap.size v' xs := by
  obtain ⟨a1, c1, e1, hsp, hn, hr⟩ := ownV_slice h.2.2
  injection e1 with e1 _ e2
  subst e1 e2
  exact (vclone_any aa ca xs W (by omega) hsp hr hn).mono fun e w' ⟨v', he, h1, h2⟩ => ⟨v', he, own_later h.1 h2, below_step h.2.1 h2, own_mono h1 h.2.1.size⟩
theorem delete_st {w : World} {v9 : Value} {xs : List Val} {W : World} {v : Value} {zs : List Int} (h : OwnB W w.heap.size v zs ∧ Below w.heap.size w W ∧ OwnV W w.heap.size v9 xs) (hl : xs.length ≤ 4096) :
    Calls Tryz.prog 46 #[v9, .func (.func 48) #[] #[]] W fun e w' => ∃ v', e = .returned v' ∧ OwnB w' w.heap.size v zs ∧ Below w.heap.size w w' ∧ OwnV w' w.heap.size v' (standL xs) :=
  (vdelete_any w.heap.size xs v9 W (by omega) h.2.2).mono fun e w' ⟨v', he, h1, h2⟩ => ⟨v', he, h.1.grew h2 (fun g e1 e2 => ownB_ownV_ne h.1 h.2.2 g e2 e1), h.2.1.trans (h2.below h.2.1.size fun g e => (World.ownsRow.lt h.2.2 g e).1), h1⟩
theorem done_below {w W w' : World} {v v' : Value} {zs : List Int} (h : OwnB W w.heap.size v zs) (hb : Below w.heap.size w W) (hg : Grew W w' v v') : Below w.heap.size w w' := hb.trans (hg.below hb.size fun g e => (ownB_lt h e).1)

theorem body_st (sch : Nat) {w : World} {v10 : Value} {ys : List Val} {W : World} {v : Value} {zs : List Int} (h : OwnB W w.heap.size v zs ∧ Below w.heap.size w W ∧ OwnV W w.heap.size v10 ys) (hl : ys.length ≤ 4096) (hs : ∀ x ∈ ys, x.s.size ≤ 1000) (hz : zs.length ≤ 1000000) (f : Nat) (hf : (sch = 1 ∧ f = 52) ∨ (sch = 2 ∧ f = 49) ∨ (sch = 3 ∧ f = 50) ∨ (sch = 4 ∧ f = 51)) :
    Calls Tryz.prog f #[v, v10] W fun e w' => ∃ v' b, e = .returned v' ∧ BodyB sch ys b ∧ OwnB w' w.heap.size v' (zs ++ b) ∧ Below w.heap.size w w' := by
  obtain ⟨h1, h2, h3⟩ := h
  have hsep := ownB_ownV_ne h1 h3
  obtain ⟨aa, ca, rfl, hsp, hn, hr⟩ := ownV_slice h3
  have hca : ys.length ≤ ca := by
    rcases h3.2 with ⟨e, _⟩ | ⟨g, cap, cur, e, _, _, hc, _⟩
    · injection e with _ e1 e2; omega
    · injection e with _ e1 e2; omega
  rcases hf with ⟨rfl, rfl⟩ | ⟨rfl, rfl⟩ | ⟨rfl, rfl⟩ | ⟨rfl, rfl⟩
  · exact (applains_any w.heap.size zs aa ca ys v W h1 (by omega) hs h2.size hr (fun ad e => hsep ad.block (by rw [e]; rfl))).mono fun e w' ⟨v', he, q1, q2⟩ => ⟨v', _, he, .inl ⟨rfl, rfl⟩, q1, done_below h1 h2 q2⟩
  · exact (runs_loop w.heap.size zs aa ca ys v W h1 hl hca hz hs h2.size hr (fun ad e => hsep ad.block (by rw [e]; rfl))).mono fun e w' ⟨v', he, q1, q2⟩ => ⟨v', _, he, .inr (.inl ⟨rfl, rfl⟩), q1, done_below h1 h2 q2⟩
  · exact (apwords_any w.heap.size w.heap.size zs ys _ v W h1 hz hl hs h2.size h3).mono fun e w' ⟨Wd, v', hW, he, q1, q2⟩ => ⟨v', _, he, .inr (.inr (.inl ⟨rfl, Wd, hW, rfl⟩)), q1, done_below h1 h2 q2⟩
  · exact (apoffs_any w.heap.size w.heap.size zs ys _ v W h1 hz hl h2.size h3).mono fun e w' ⟨v', he, q1, q2⟩ => ⟨v', _, he, .inr (.inr (.inr ⟨rfl, rfl⟩)), q1, done_below h1 h2 q2⟩

set_option maxHeartbeats 8000000 in
set_option maxRecDepth 100000 in
theorem written_any (sch kd : Nat) (b0 : Nat) (xs : List Val) (vv : Value) (w : World) (hsch : sch = 1 ∨ sch = 2 ∨ sch = 3 ∨ sch = 4) (hkd : kd ≤ 2) (hl : xs.length ≤ 4096) (hs : ∀ x ∈ xs, x.s.size ≤ 1000) (ha : OwnV w b0 vv xs) :
    Calls Tryz.prog 41 #[.int .i64 (kd : Int), vv, .int .i64 (sch : Int)] w fun e w' => ∃ v' b, e = .returned v' ∧ Hid (BodyB sch (standL xs) b) ∧ Hid (OwnB w' w.heap.size v' (headB sch kd xs ++ b)) ∧ Below w.heap.size w w' := by
  obtain ⟨aa, ca, rfl, _, _, _⟩ := ownV_slice ha
  have S0 : Hid (St w b0 (.slice aa xs.length ca) xs w (.slice none 0 0) []) := ⟨World.ownsRow_nil _ _ _ _, Below.refl _ _, ha⟩
  have hkd2 : (kd : Int) ≤ 2 := by omega
  have hl4 : (xs.length : Int) ≤ 4096 := by omega
  have HL := hide hl
  have HSL : Hid ((standL xs).length ≤ 4096) := Nat.le_trans (stand_len xs) hl
  have HS2 : Hid (∀ x ∈ standL xs, x.s.size ≤ 1000) := fun x hx => hs x (List.mem_filter.1 hx).1
  have HZ : Hid ((headB sch kd xs).length ≤ 1000000) := by
    show _ ≤ _
    have := nulls_len xs hl
    simp only [headB, List.length_append, beL_len]
    omega
  have HB : Hid (∀ W v v10 f, (OwnB W w.heap.size v (headB sch kd xs) ∧ Below w.heap.size w W ∧ OwnV W w.heap.size v10 (standL xs)) → ((sch = 1 ∧ f = 52) ∨ (sch = 2 ∧ f = 49) ∨ (sch = 3 ∧ f = 50) ∨ (sch = 4 ∧ f = 51)) → Calls Tryz.prog f #[v, v10] W fun e w' => ∃ v' b, e = .returned v' ∧ Hid (BodyB sch (standL xs) b) ∧ Hid (OwnB w' w.heap.size v' (headB sch kd xs ++ b)) ∧ Below w.heap.size w w') := fun W v v10 f h hf => body_st sch h (unhide HSL) (unhide HS2) (unhide HZ) f hf
  have H1 : Hid (Calls Tryz.prog 44 #[.slice none 0 0, .int .u64 (sch : Int), .int .i64 1] w fun e w' => ∃ v', e = .returned v' ∧ Hid (St w b0 (.slice aa xs.length ca) xs w' v' (beL (sch : Int) 1 1))) := (unhide S0).num (sch : Int) 1 (by omega) (by simp)
  have H2 : Hid (∀ W v, Hid (St w b0 (.slice aa xs.length ca) xs W v (beL (sch : Int) 1 1)) → Calls Tryz.prog 44 #[v, .int .u64 (kd : Int), .int .i64 1] W fun e w' => ∃ v', e = .returned v' ∧ Hid (St w b0 (.slice aa xs.length ca) xs w' v' (beL (sch : Int) 1 1 ++ beL (kd : Int) 1 1))) := fun W v h => St.num h (kd : Int) 1 (by omega) (by rw [beL_len]; omega)
  have H3 : Hid (∀ W v, Hid (St w b0 (.slice aa xs.length ca) xs W v (beL (sch : Int) 1 1 ++ beL (kd : Int) 1 1)) → Calls Tryz.prog 44 #[v, .int .u64 (xs.length : Int), .int .i64 4] W fun e w' => ∃ v', e = .returned v' ∧ Hid (St w b0 (.slice aa xs.length ca) xs w' v' ((beL (sch : Int) 1 1 ++ beL (kd : Int) 1 1) ++ beL (xs.length : Int) 4 4))) := fun W v h => St.num h (xs.length : Int) 4 (by omega) (by rw [List.length_append, beL_len, beL_len]; omega)
  have H4 : Hid (∀ W v, Hid (St w b0 (.slice aa xs.length ca) xs W v ((beL (sch : Int) 1 1 ++ beL (kd : Int) 1 1) ++ beL (xs.length : Int) 4 4)) → Calls Tryz.prog 45 #[v, .slice aa xs.length ca] W fun e w' => ∃ v', e = .returned v' ∧ Hid (St w b0 (.slice aa xs.length ca) xs w' v' (headB sch kd xs))) := fun W v h => nulls_st h (unhide HL) (by rw [List.length_append, List.length_append, beL_len, beL_len, beL_len]; omega)
  have H5 : Hid (∀ W v, Hid (St w b0 (.slice aa xs.length ca) xs W v (headB sch kd xs)) → Calls Tryz.prog 47 #[.slice aa xs.length ca] W fun e w' => ∃ v', e = .returned v' ∧ Hid (OwnB w' w.heap.size v (headB sch kd xs) ∧ Below w.heap.size w w' ∧ OwnV w' w.heap.size v' xs)) := fun W v h => clone_st h (unhide HL)
  have H6 : Hid (∀ W v v9, Hid (OwnB W w.heap.size v (headB sch kd xs) ∧ Below w.heap.size w W ∧ OwnV W w.heap.size v9 xs) → Calls Tryz.prog 46 #[v9, .func (.func 48) #[] #[]] W fun e w' => ∃ v', e = .returned v' ∧ Hid (OwnB w' w.heap.size v (headB sch kd xs) ∧ Below w.heap.size w w' ∧ OwnV w' w.heap.size v' (standL xs))) := fun W v v9 h => delete_st h (unhide HL)
  clear ha hs hl
  generalize headB sch kd xs = HD at *
  rcases hsch with rfl | rfl | rfl | rfl
  all_goals
    go_enter Tryz.func41, Tryz.ntmps41
    go_wp2_with (first
      | (go_at_call_of 44 (Value.slice none 0 0); refine (unhide H1).mono ?_; rintro e w1 ⟨v1, rfl, q1⟩)
      | (go_at_call_of 44 (Value.int IntKind.u64 (kd : Int)); refine (unhide H2 _ _ q1).mono ?_; rintro e w2 ⟨v2, rfl, q2⟩)
      | (go_at_call_of 44 (Value.int IntKind.i64 4); refine (unhide H3 _ _ q2).mono ?_; rintro e w3 ⟨v3, rfl, q3⟩)
      | (go_at_call 45; refine (unhide H4 _ _ q3).mono ?_; rintro e w4 ⟨v4, rfl, q4⟩)
      | (go_at_call 47; refine (unhide H5 _ _ q4).mono ?_; rintro e w5 ⟨v5, rfl, q5⟩)
      | (go_at_call 46; refine (unhide H6 _ _ _ q5).mono ?_; rintro e w6 ⟨v6, rfl, q6⟩)
      | (go_at_call 49; refine (unhide HB _ _ _ 49 q6 (by simp)).mono ?_; rintro e w7 ⟨v7, b, rfl, g1, g2, g3⟩)
      | (go_at_call 50; refine (unhide HB _ _ _ 50 q6 (by simp)).mono ?_; rintro e w7 ⟨v7, b, rfl, g1, g2, g3⟩)
      | (go_at_call 51; refine (unhide HB _ _ _ 51 q6 (by simp)).mono ?_; rintro e w7 ⟨v7, b, rfl, g1, g2, g3⟩)
      | (go_at_call 52; refine (unhide HB _ _ _ 52 q6 (by simp)).mono ?_; rintro e w7 ⟨v7, b, rfl, g1, g2, g3⟩))
    go_ret
    exact ⟨_, _, rfl, g1, g2, g3⟩
end Go.Proofs.YtjnggnhgambmkaaGreat
set_option linter.unusedSimpArgs false
set_option linter.unusedVariables false
namespace Go.Proofs.YtjnggnhgambmkaaGreat
open Go.RowKit Go.Sort

theorem good_kind {X : Vc} (h : goodB X = true) : X.k = 1 ∨ X.k = 2 := by
  unfold goodB at h
  split at h
  · rename_i h1; exact .inl (by simpa using h1)
  · split at h
    · rename_i h1; exact .inr (by simpa using h1)
    · cases h
theorem vals_kind {X : Vc} (hg : goodB X = true) {x : Val} (hx : x ∈ valsV X) : x = .null ∨ (X.k = 1 ∧ ∃ n, (n ∈ X.ns ∨ n = 0) ∧ x = .num n) ∨ (X.k = 2 ∧ ∃ s, s.size ≤ 1000 ∧ x = .str s) := by
  obtain ⟨i, hi, rfl⟩ := List.getElem_of_mem hx
  have hi2 : i < X.nl.length := by rw [vals_len hg] at hi; exact hi
  have e := vals_at hg hi2
  rw [List.getElem?_eq_getElem hi] at e
  injection e with e
  rw [e]
  unfold atV
  split
  · exact .inl rfl
  · rcases good_kind hg with h | h
    · right; left
      refine ⟨h, X.ns.getD i 0, ?_, by simp [h]⟩
      rw [List.getD_eq_getElem?_getD]
      cases he : X.ns[i]? with
      | none => right; rfl
      | some n => left; exact List.mem_of_getElem? he
    · right; right
      refine ⟨h, X.ss.getD i ⟨#[]⟩, ?_, by simp [h]⟩
      rw [List.getD_eq_getElem?_getD]
      cases he : X.ss[i]? with
      | none => show (0 : Nat) ≤ 1000; omega
      | some s =>
        have hm := List.mem_of_getElem? he
        unfold goodB at hg
        rw [h] at hg
        have h2 : X.ss.any largeB = false := by
          cases h3 : X.ss.any largeB
          · rfl
          · simp [h3] at hg
        rw [List.any_eq_false] at h2
        have := h2 s hm
        simp [largeB] at this
        show s.size ≤ 1000
        omega
theorem vals_size {X : Vc} (hg : goodB X = true) {x : Val} (hx : x ∈ valsV X) : x.s.size ≤ 1000 := by
  rcases vals_kind hg hx with rfl | ⟨_, n, _, rfl⟩ | ⟨_, s, hs, rfl⟩
  · show (0 : Nat) ≤ 1000; omega
  · show (0 : Nat) ≤ 1000; omega
  · exact hs
theorem vals_clean {X : Vc} (hg : goodB X = true) {x : Val} (hx : x ∈ valsV X) : cleanV x = x := by
  rcases vals_kind hg hx with rfl | ⟨_, n, _, rfl⟩ | ⟨_, s, hs, rfl⟩ <;> rfl
def badW (X : Vc) (sch : Int) : Bool := !goodB X || decide (sch < 1) || decide (4 < sch) || (sch == 4 && X.k == 2)
/-- What the program's Write answers. -/
def PW (X : Vc) (sch : Int) (s : ByteArray) (f : Int) : Prop :=
  (badW X sch = true ∧ s = ⟨#[]⟩ ∧ f = 1) ∨ (badW X sch = false ∧ 4096 < X.nl.length ∧ s = ⟨#[]⟩ ∧ f = 3) ∨
  (badW X sch = false ∧ X.nl.length ≤ 4096 ∧ f = 0 ∧ ∃ b, BodyB sch.toNat (standL (valsV X)) b ∧ s = toB (headB sch.toNat X.k.toNat (valsV X) ++ b))
/-- A column in a box. -/
def Box4 (w : World) (b : Nat) (X : Vc) (p : Sl) : Prop := w.cell? ⟨b, 0, none⟩ = some (.int .i64 X.k) ∧ w.cell? ⟨b, 1, none⟩ = some (.slice p.a1 X.nl.length p.c1) ∧ w.cell? ⟨b, 2, none⟩ = some (.slice p.a2 X.ns.length p.c2) ∧ w.cell? ⟨b, 3, none⟩ = some (.slice p.a3 X.ss.length p.c3)
theorem Box4.later {w w' : World} {b : Nat} {X : Vc} {p : Sl} (h : Box4 w b X p) (hb : Below w.heap.size w w') : Box4 w' b X p := ⟨cell_later hb h.1, cell_later hb h.2.1, cell_later hb h.2.2.1, cell_later hb h.2.2.2⟩

set_option maxHeartbeats 4000000 in
set_option maxRecDepth 100000 in
theorem pwrite_bad (X : Vc) (p : Sl) (sch : Int) (w : World) (hs : small X) (hp : VecAt w X p) (hbad : badW X sch = true) :
    Calls Tryz.prog 36 #[vecV X p, .int .i64 sch] w fun e w' => e = .returned (.tuple #[.string ⟨#[]⟩, .int .i64 1]) ∧ Below w.heap.size w w' := by
  rw [vecV_open]
  have bl := below_alloc (Below.refl _ w) (.cells #[.int .i64 X.k, .slice p.a1 X.nl.length p.c1, .slice p.a2 X.ns.length p.c2, .slice p.a3 X.ss.length p.c3] 29)
  have HG := hide (good_any X p _ hs (hp.later bl))
  rw [vecV_open] at HG
  cases hg : goodB X
  · rw [hg] at HG
    clear hbad hg
    go_enter Tryz.func36, Tryz.ntmps36
    go_wp2_with (go_at_call 6; refine (unhide HG).mono ?_; rintro e w1 ⟨rfl, hb1⟩; obtain ⟨hc1, _⟩ := bcell hb1)
    refine bodyPost_ret (v := .tuple #[.string ⟨#[]⟩, .int .i64 1]) (by simp [results, Tryz.results36, go_sem]) rfl ⟨rfl, below_step bl hb1⟩
  · rw [hg] at HG
    simp only [badW, hg, Bool.not_true, Bool.false_or, Bool.or_eq_true, decide_eq_true_eq, Bool.and_eq_true, beq_iff_eq] at hbad
    have FACT : Hid (∀ w1, Below (w.alloc (.cells #[.int .i64 X.k, .slice p.a1 X.nl.length p.c1, .slice p.a2 X.ns.length p.c2, .slice p.a3 X.ss.length p.c3] 29)).heap.size (w.alloc (.cells #[.int .i64 X.k, .slice p.a1 X.nl.length p.c1, .slice p.a2 X.ns.length p.c2, .slice p.a3 X.ss.length p.c3] 29)) w1 → w1.cell? ⟨w.heap.size, 0, none⟩ = some (.int .i64 X.k) ∧ Hid (Below w.heap.size w w1)) := fun w1 hb1 => by
      obtain ⟨hc1, _⟩ := bcell hb1
      refine ⟨?_, below_step bl hb1⟩
      rw [hc1 _ _ (by simp)]; simp [go_sem]
    clear hg bl
    rcases hbad with (h | h) | ⟨h1, h2⟩
    · go_enter Tryz.func36, Tryz.ntmps36
      go_wp2_with (go_at_call 6; refine (unhide HG).mono ?_; rintro e w1 ⟨rfl, hb1⟩; obtain ⟨c0, hbb⟩ := unhide FACT _ hb1; clear hb1)
      refine bodyPost_ret (v := .tuple #[.string ⟨#[]⟩, .int .i64 1]) (by simp [results, Tryz.results36, go_sem]) rfl ⟨rfl, unhide hbb⟩
    · have h3 : ¬ sch < 1 := by omega
      go_enter Tryz.func36, Tryz.ntmps36
      go_wp2_with (go_at_call 6; refine (unhide HG).mono ?_; rintro e w1 ⟨rfl, hb1⟩; obtain ⟨c0, hbb⟩ := unhide FACT _ hb1; clear hb1)
      refine bodyPost_ret (v := .tuple #[.string ⟨#[]⟩, .int .i64 1]) (by simp [results, Tryz.results36, go_sem]) rfl ⟨rfl, unhide hbb⟩
    · subst h1
      rw [h2] at FACT HG
      rw [h2]
      clear h2
      go_enter Tryz.func36, Tryz.ntmps36
      go_wp2_with (go_at_call 6; refine (unhide HG).mono ?_; rintro e w1 ⟨rfl, hb1⟩; obtain ⟨c0, hbb⟩ := unhide FACT _ hb1; clear hb1)
      refine bodyPost_ret (v := .tuple #[.string ⟨#[]⟩, .int .i64 1]) (by simp [results, Tryz.results36, go_sem]) rfl ⟨rfl, unhide hbb⟩

set_option maxHeartbeats 4000000 in
set_option maxRecDepth 100000 in
theorem pwrite_large (X : Vc) (p : Sl) (sch : Int) (w : World) (hs : small X) (hp : VecAt w X p) (hbad : badW X sch = false) (hbig : 4096 < X.nl.length) :
    Calls Tryz.prog 36 #[vecV X p, .int .i64 sch] w fun e w' => e = .returned (.tuple #[.string ⟨#[]⟩, .int .i64 3]) ∧ Below w.heap.size w w' := by
  rw [vecV_open]
  have bl := below_alloc (Below.refl _ w) (.cells #[.int .i64 X.k, .slice p.a1 X.nl.length p.c1, .slice p.a2 X.ns.length p.c2, .slice p.a3 X.ss.length p.c3] 29)
  have HG := hide (good_any X p _ hs (hp.later bl))
  rw [vecV_open] at HG
  simp only [badW, Bool.or_eq_false_iff, Bool.not_eq_false', decide_eq_false_iff_not] at hbad
  obtain ⟨⟨⟨hg, h1⟩, h2⟩, h3⟩ := hbad
  rw [hg] at HG
  have i1 : (4096 : Int) < (X.nl.length : Int) := by omega
  have FACT : Hid (∀ w1, Below (w.alloc (.cells #[.int .i64 X.k, .slice p.a1 X.nl.length p.c1, .slice p.a2 X.ns.length p.c2, .slice p.a3 X.ss.length p.c3] 29)).heap.size (w.alloc (.cells #[.int .i64 X.k, .slice p.a1 X.nl.length p.c1, .slice p.a2 X.ns.length p.c2, .slice p.a3 X.ss.length p.c3] 29)) w1 → w1.cell? ⟨w.heap.size, 0, none⟩ = some (.int .i64 X.k) ∧ w1.cell? ⟨w.heap.size, 1, none⟩ = some (.slice p.a1 X.nl.length p.c1) ∧ Hid (Below w.heap.size w w1)) := fun w1 hb1 => by
    obtain ⟨hc1, _⟩ := bcell hb1
    refine ⟨?_, ?_, below_step bl hb1⟩ <;> (rw [hc1 _ _ (by simp)]; simp [go_sem])
  clear hg bl
  rcases Bool.eq_false_or_eq_true (sch == 4) with e4 | e4
  · have e2 : (X.k == 2) = false := by simpa [e4] using h3
    clear h3
    go_enter Tryz.func36, Tryz.ntmps36
    go_wp2_with (go_at_call 6; refine (unhide HG).mono ?_; rintro e w1 ⟨rfl, hb1⟩; obtain ⟨c0, c1, hbb⟩ := unhide FACT _ hb1; clear hb1)
    refine bodyPost_ret (v := .tuple #[.string ⟨#[]⟩, .int .i64 3]) (by simp [results, Tryz.results36, go_sem]) rfl ⟨rfl, unhide hbb⟩
  · clear h3
    go_enter Tryz.func36, Tryz.ntmps36
    go_wp2_with (go_at_call 6; refine (unhide HG).mono ?_; rintro e w1 ⟨rfl, hb1⟩; obtain ⟨c0, c1, hbb⟩ := unhide FACT _ hb1; clear hb1)
    refine bodyPost_ret (v := .tuple #[.string ⟨#[]⟩, .int .i64 3]) (by simp [results, Tryz.results36, go_sem]) rfl ⟨rfl, unhide hbb⟩
end Go.Proofs.YtjnggnhgambmkaaGreat

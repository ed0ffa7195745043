import Derived.Test.YthbfomcmjjnikaaGreatPackL
import Derived.Test.YthbfomcmjjnikaaGreatAnyG
import Derived.Lib.SliceRun
set_option linter.unusedSimpArgs false
set_option linter.unusedVariables false
namespace Go.Proofs.YthbfomcmjjnikaaGreat
open Go.RowKit Go.Sort

theorem rtake_to {b n : Nat} {l : List UInt8} {bad : Bool} {w : World} (h : Br w b l bad) (hl : l.length ≤ 140737488355328) (hn : n ≤ 1000000000) {t r : List UInt8} {bad2 : Bool} (e : takeR l bad n = (t, r, bad2)) :
    Calls Tryz.prog 39 #[.pointer (some ⟨b, 0, none⟩), .int .i64 n] w fun e w' => e = .returned (.string (bs t)) ∧ Br w' b r bad2 ∧ Gr w w' b := by
  have := rtake_any b n l bad w h hl hn
  rw [e] at this
  exact this
set_option maxHeartbeats 1000000 in
set_option maxRecDepth 100000 in
theorem rplain_int {b : Nat} {l t r : List UInt8} {bad bad2 : Bool} {w : World} (h : Br w b l bad) (hl : l.length ≤ 140737488355328) (ht : takeR l bad 8 = (t, r, bad2)) :
    Calls Tryz.prog 90 #[.pointer (some ⟨b, 0, none⟩), .int .i64 1] w fun e w' => e = .returned (Val.num (sint (beV t))).v ∧ Br w' b r bad2 ∧ Gr w w' b := by
  have htl : t.length ≤ 8 := by have := (takeR_len l bad 8).1; rw [ht] at this; exact this
  have HT := hide (fun o => rtake_to (h.alloc o) hl (by decide) ht)
  have HN := hide (fun W => rnumber_any t htl W)
  have HU := hide (fun W => rnum_any (sint (beV t)) W)
  have HX := hide (fun w1 hg => box3_facts (box_br (w1 := w1) (y := Val.null) h hg))
  have hne : b ≠ w.heap.size := by have := h.ne; omega
  have hm := beV_lt t
  have hm8 : beV t < 18446744073709551616 := by
    have h3 : 256 ^ t.length ≤ 256 ^ 8 := Nat.pow_le_pow_right (by decide) htl
    have h4 : (256 : Nat) ^ 8 = 18446744073709551616 := by decide
    omega
  have HNE := hide hne
  clear h hne hm ht htl
  generalize beV t = m at *
  go_enter Tryz.func90, Tryz.ntmps90
  go_wp2_with (first
    | (go_at_call 39; refine (unhide HT _).mono ?_; rintro e w1 ⟨rfl, hr1, hg1⟩)
    | (go_at_call 40; refine (unhide HN _).mono ?_; rintro e w2 ⟨rfl, rfl⟩)
    | (go_at_call 37; refine (unhide HU _).mono ?_; rintro e w3 ⟨rfl, hb3⟩; rw [Val.open_]; obtain ⟨c0, c1, c2, f0, f1, f2⟩ := unhide HX w3 (hg1.trans (Gr.of_below hb3 b))))
  refine bodyPost_ret (v := (Val.num (sint m)).v) ?_ rfl ⟨rfl, ?_, ?_⟩
  · simp [results, Tryz.results90, go_sem, Val.v, Val.num, c0, c1, c2]
  · exact Br.new3 (l := r) (bad := bad2) (World.rowIs.of_block hr1 (hb3.block b hr1.ne)) (unhide HNE) _ _ _
  · exact (hg1.trans (Gr.of_below hb3 b)).new3 _ _ _
set_option maxHeartbeats 1000000 in
set_option maxRecDepth 100000 in
theorem rplain_text {b : Nat} {l t r u r2 : List UInt8} {bad bad2 bad3 : Bool} {w : World} (h : Br w b l bad) (hl : l.length ≤ 140737488355328) (ht : takeR l bad 2 = (t, r, bad2)) (hu : takeR r bad2 (beV t) = (u, r2, bad3)) :
    Calls Tryz.prog 90 #[.pointer (some ⟨b, 0, none⟩), .int .i64 2] w fun e w' => e = .returned (Val.str (bs u)).v ∧ Br w' b r2 bad3 ∧ Gr w w' b := by
  have htl : t.length ≤ 2 := by have := (takeR_len l bad 2).1; rw [ht] at this; exact this
  have hrl : r.length ≤ l.length := by have := (takeR_len l bad 2).2; rw [ht] at this; exact this
  have hm := beV_lt t
  have hm2 : beV t < 65536 := by
    have h3 : 256 ^ t.length ≤ 256 ^ 2 := Nat.pow_le_pow_right (by decide) htl
    have h4 : (256 : Nat) ^ 2 = 65536 := by decide
    omega
  have HT := hide (fun o => rtake_to (h.alloc o) hl (by decide) ht)
  have HN := hide (fun W => rnumber_any t (by omega) W)
  have HT2 := hide (fun W (hW : Br W b r bad2) => rtake_to hW (by omega) (by omega) hu)
  have HU := hide (fun W => rstr_any (bs u) W)
  have HX := hide (fun w1 hg => box3_facts (box_br (w1 := w1) (y := Val.null) h hg))
  have hne : b ≠ w.heap.size := by have := h.ne; omega
  have HNE := hide hne
  clear h hne hm ht htl hu
  generalize beV t = m at *
  go_enter Tryz.func90, Tryz.ntmps90
  go_wp2_with (first
    | (go_at_call 39; first | (refine (unhide HT2 _ hr1).mono ?_; rintro e w2 ⟨rfl, hr2, hg2⟩) | (refine (unhide HT _).mono ?_; rintro e w1 ⟨rfl, hr1, hg1⟩))
    | (go_at_call 40; refine (unhide HN _).mono ?_; rintro e wn ⟨rfl, rfl⟩)
    | (go_at_call 60; refine (unhide HU _).mono ?_; rintro e w3 ⟨rfl, hb3⟩; rw [Val.open_]; obtain ⟨c0, c1, c2, f0, f1, f2⟩ := unhide HX w3 ((hg1.trans hg2).trans (Gr.of_below hb3 b))))
  refine bodyPost_ret (v := (Val.str (bs u)).v) ?_ rfl ⟨rfl, ?_, ?_⟩
  · simp [results, Tryz.results90, go_sem, Val.v, Val.str, c0, c1, c2]
  · exact Br.new3 (l := r2) (bad := bad3) (World.rowIs.of_block hr2 (hb3.block b hr2.ne)) (unhide HNE) _ _ _
  · exact ((hg1.trans hg2).trans (Gr.of_below hb3 b)).new3 _ _ _
theorem rplain_any {b : Nat} {kind : Int} {l : List UInt8} {bad : Bool} {w : World} (hk : kind = 1 ∨ kind = 2) (h : Br w b l bad) (hl : l.length ≤ 140737488355328) :
    Calls Tryz.prog 90 #[.pointer (some ⟨b, 0, none⟩), .int .i64 kind] w fun e w' => e = .returned (plainR kind l bad).1.v ∧ Br w' b (plainR kind l bad).2.1 (plainR kind l bad).2.2 ∧ Gr w w' b := by
  rcases hk with rfl | rfl
  · have e : plainR 1 l bad = (.num (sint (beV (takeR l bad 8).1)), (takeR l bad 8).2) := rfl
    rw [e]
    exact rplain_int h hl rfl
  · have e : plainR 2 l bad = (.str (bs (takeR (takeR l bad 2).2.1 (takeR l bad 2).2.2 (beV (takeR l bad 2).1)).1), (takeR (takeR l bad 2).2.1 (takeR l bad 2).2.2 (beV (takeR l bad 2).1)).2) := rfl
    rw [e]
    exact rplain_text h hl rfl rfl
theorem takeR_of {n : Nat} {l t r : List UInt8} (h : takeD n l = some (t, r)) : takeR l false n = (t, r, false) := by
  obtain ⟨h1, rfl, rfl⟩ := takeD_some h
  simp [takeR]; omega
/-- Where the program reads a value, the document reads it too. -/
theorem plainR_of {kind : Int} {l r : List UInt8} {x : Val} (h : plainD kind l = some (x, r)) : plainR kind l false = (x, r, false) := by
  unfold plainD at h
  unfold plainR
  split at h
  · rename_i hk
    rw [if_pos hk]
    cases hn : numD 8 l with
    | none => rw [hn] at h; cases h
    | some p =>
      obtain ⟨m, r'⟩ := p
      rw [hn] at h
      injection h with h
      injection h with h1 h2
      subst h1; subst h2
      obtain ⟨g1, rfl, rfl⟩ := numD_some hn
      rw [takeR_of (t := l.take 8) (r := l.drop 8) (by simp [takeD, g1])]
  · rename_i hk
    rw [if_neg hk]
    cases hn : numD 2 l with
    | none => rw [hn] at h; cases h
    | some p =>
      obtain ⟨m, l1⟩ := p
      rw [hn, Option.bind_some] at h
      split at h
      · cases ht : takeD m l1 with
        | none => simp only [ht] at h; cases h
        | some q =>
          obtain ⟨t, r'⟩ := q
          simp only [ht] at h
          injection h with h
          injection h with h1 h2
          subst h1; subst h2
          obtain ⟨g1, rfl, rfl⟩ := numD_some hn
          rw [takeR_of (t := l.take 2) (r := l.drop 2) (by simp [takeD, g1])]
          simp only
          rw [takeR_of ht]
      · cases h
end Go.Proofs.YthbfomcmjjnikaaGreat
set_option linter.unusedSimpArgs false
set_option linter.unusedVariables false
namespace Go.Proofs.YthbfomcmjjnikaaGreat
open Go.RowKit Go.Sort

theorem leV_lt : ∀ l : List UInt8, leV l < 256 ^ l.length
  | [] => by simp [leV]
  | b :: l => by
    have := leV_lt l
    have h2 := b.toNat_lt
    simp only [leV, List.length_cons, Nat.pow_succ]
    omega
theorem spare (t : List UInt8) (q f : Nat) (hl : t.length = q + 1) (hf : f < 8) : leV t / 256 ^ q % 256 / 2 ^ f = 0 ↔ leV t < 2 ^ (8 * q + f) := by
  have h1 := leV_lt t
  rw [hl, Nat.pow_succ] at h1
  have e1 : (256 : Nat) ^ q = 2 ^ (8 * q) := by rw [Nat.pow_mul]
  have h2 : leV t / 256 ^ q < 256 := Nat.div_lt_of_lt_mul h1
  rw [Nat.mod_eq_of_lt h2, e1, Nat.div_div_eq_div_mul, ← Nat.pow_add, Nat.div_eq_zero_iff]
  have := Nat.two_pow_pos (8 * q + f)
  omega
theorem full (t : List UInt8) (n : Nat) (h : 8 * t.length = n) : leV t < 2 ^ n := by
  have h1 := leV_lt t
  have e1 : (256 : Nat) ^ t.length = 2 ^ (8 * t.length) := by rw [Nat.pow_mul]
  rw [e1, h] at h1; exact h1
def bitsD (count d : Nat) (l : List UInt8) : Option (List UInt8 × List UInt8) :=
  (takeD (bytesN count d) l).bind fun p => if leV p.1 < 2 ^ (d * count) then some p else none
/-- A closure that tells bits: its three variables. -/
structure Bits (w : World) (A B C d P : Nat) (t : List UInt8) : Prop where
  a : At1 w A 3 (.int .i64 d)
  b : At1 w B 3 (.int .i64 P)
  c : At1 w C 9 (.string (bs t))
  ab : A ≠ B
  cb : C ≠ B
theorem At1.new {w : World} {b t : Nat} {v : Value} (h : At1 w b t v) (o : Obj) : At1 (w.alloc o) b t v := World.rowIs.alloc h o
theorem makeFunc_run (fn : Fn) (first cap : Array Value) (w : World) : (Instr.makeFunc fn first cap).run Tryz.prog w = .ok (.func fn first cap) w := rfl
theorem bytes_f0 {count d : Nat} {t : List UInt8} (hl : t.length = bytesN count d) (h : count * d % 8 = 0) : leV t < 2 ^ (d * count) :=
  full t _ (by rw [hl, Nat.mul_comm d count]; unfold bytesN; omega)
theorem bytes_f1 {count d : Nat} {t : List UInt8} (hl : t.length = bytesN count d) (h : 0 < count * d % 8) : t.length = count * d / 8 + 1 ∧ (leV t / 256 ^ (count * d / 8) % 256 / 2 ^ (count * d % 8) = 0 ↔ leV t < 2 ^ (d * count)) := by
  have h1 : t.length = count * d / 8 + 1 := by rw [hl]; unfold bytesN; omega
  refine ⟨h1, ?_⟩
  rw [spare t _ _ h1 (by omega), show 8 * (count * d / 8) + count * d % 8 = d * count by rw [Nat.mul_comm d count]; omega]
theorem tst0 (Y f : Nat) : ((Y : Int) / 2 ^ f == 0) = decide (Y / 2 ^ f = 0) := by
  have e1 : (Y : Int) / 2 ^ f = ((Y / 2 ^ f : Nat) : Int) := by rw [Int.natCast_ediv, Int.natCast_pow]; rfl
  rw [e1]
  generalize Y / 2 ^ f = z
  rw [Bool.eq_iff_iff]
  simp
/-- What bits answers with. -/
def BitsR (w w' : World) (e : Ending) (b d : Nat) (t r : List UInt8) : Prop := ∃ A B C : Nat, e = .returned (.func (.func 177) #[] #[.pointer (some ⟨A, 0, none⟩), .pointer (some ⟨B, 0, none⟩), .pointer (some ⟨C, 0, none⟩)]) ∧ Bits w' A B C d 0 t ∧ w.heap.size ≤ A ∧ w.heap.size ≤ B ∧ w.heap.size ≤ C ∧ Rd w' b r ∧ Gr w w' b
theorem bits_end {w w2 : World} {b d : Nat} {t r : List UInt8} {o : Obj} (hA : At1 w2 w.heap.size 3 (.int .i64 d)) (hr2 : Rd w2 b r) (hg2 : Gr (w.alloc o) w2 b) :
    BitsR w ((w2.alloc (.cells #[.string (bs t)] 9)).alloc (.cells #[.int .i64 0] 3)) (.returned (.func (.func 177) #[] #[.pointer (some ⟨w.heap.size, 0, none⟩), .pointer (some ⟨w2.heap.size + 1, 0, none⟩), .pointer (some ⟨w2.heap.size, 0, none⟩)])) b d t r := by
  have hs : w.heap.size + 1 ≤ w2.heap.size := by have := hg2.size; simpa using this
  refine ⟨_, _, _, rfl, ⟨(hA.new _).new _, ?_, (At1.alloc w2 9 _).new _, by omega, by omega⟩, by omega, by omega, by omega, (hr2.alloc _).alloc _, ((Gr.alloc _ _ _).trans hg2).trans ((Gr.alloc _ _ _).trans (Gr.alloc _ _ _))⟩
  have := At1.alloc (w2.alloc (.cells #[.string (bs t)] 9)) 3 (.int .i64 0)
  simpa using this
set_option maxHeartbeats 2000000 in
set_option maxRecDepth 100000 in
theorem bits_yes {b count d : Nat} {l t r : List UInt8} {w : World} (hc : count ≤ 4096) (hd : d ≤ 64) (h : Rd w b l) (hl : l.length ≤ 140737488355328) (ht : takeD (bytesN count d) l = some (t, r)) (hlt : leV t < 2 ^ (d * count)) :
    Calls Tryz.prog 161 #[.pointer (some ⟨b, 0, none⟩), .int .i64 count, .int .i64 d] w fun e w' => BitsR w w' e b d t r := by
  have HB := hide (fun W => bytesfor_any count d W (by omega) hd)
  have HT := hide (fun W (hW : Rd W b l) => takeg_yes hW hl ht)
  have htl : t.length = bytesN count d := by
    obtain ⟨h1, rfl, rfl⟩ := takeD_some ht
    rw [List.length_take]; omega
  have hmf := makeFunc_run
  have hne : w.heap.size ≠ b := by have := h.ne; omega
  have HA := hide (fun w2 (hg2 : Gr (w.alloc (.cells #[.int .i64 d] 3)) w2 b) => (At1.alloc w 3 (.int .i64 d)).gr hg2 hne)
  have HR := hide h
  have hN : count * d ≤ 4096 * 64 := Nat.mul_le_mul hc hd
  obtain ⟨N, hNe⟩ : ∃ N, N = count * d := ⟨_, rfl⟩
  have e1 : (count : Int) * (d : Int) = (N : Int) := by rw [hNe, Int.natCast_mul]
  have hf1 : 0 < N % 8 → t.length = N / 8 + 1 ∧ (leV t / 256 ^ (N / 8) % 256 / 2 ^ (N % 8) = 0 ↔ leV t < 2 ^ (d * count)) := by
    rw [hNe]; exact bytes_f1 htl
  rw [← hNe] at hN
  have HLT := hide hlt
  clear h htl hNe ht hne hlt
  by_cases hf : 0 < N % 8
  · obtain ⟨hf2, hf3⟩ := hf1 hf
    obtain ⟨q, f, hq, hf4⟩ : ∃ q f, q = N / 8 ∧ f = N % 8 := ⟨_, _, rfl, rfl⟩
    rw [← hq, ← hf4] at hf3
    have hix := idx_bs t q (by omega)
    have e2 : (N : Int) % 8 = (f : Int) := by omega
    have e3 : ((bs t).size : Int) - 1 = (q : Int) := by rw [bs_size]; omega
    have hs0 : ((bs t).size : Int) ≤ 1000000 := by rw [bs_size]; omega
    obtain ⟨Y, hY⟩ : ∃ Y, Y = leV t / 256 ^ q % 256 := ⟨_, rfl⟩
    rw [← hY] at hf3
    simp only [← hY] at hix
    have hY2 : Y < 256 := by rw [hY]; exact Nat.mod_lt _ (by decide)
    have HZ : Hid (Y / 2 ^ f = 0) := hf3.2 (unhide HLT)
    have hfp : (0 : Int) < (f : Int) := by omega
    have hf8 : f < 8 := by omega
    clear hf1 hf2 hf3 hq hf4 hf hY
    go_enter Tryz.func161, Tryz.ntmps161
    go_wp2_with (first
      | (go_at_call 157; refine (unhide HB _).mono ?_; rintro e w1 ⟨rfl, rfl⟩)
      | (go_at_call 160; refine (unhide HT _ ((unhide HR).alloc _)).mono ?_; rintro e w2 ⟨rfl, hr2, hg2⟩; have hA := unhide HA w2 hg2; have cA := fun o => (hA.new o).cell; replace hA := hide hA; replace hr2 := hide hr2; replace hg2 := hide hg2)
      | (go_at_call 149; refine (ensureT _ (by rw [tst0, unhide HZ]; rfl) _).mono ?_; rintro e w3 ⟨rfl, rfl⟩))
    go_ret
    exact bits_end (unhide hA) (unhide hr2) (unhide hg2)
  · have e2 : (N : Int) % 8 = 0 := by omega
    clear hf1 hf
    go_enter Tryz.func161, Tryz.ntmps161
    go_wp2_with (first
      | (go_at_call 157; refine (unhide HB _).mono ?_; rintro e w1 ⟨rfl, rfl⟩)
      | (go_at_call 160; refine (unhide HT _ ((unhide HR).alloc _)).mono ?_; rintro e w2 ⟨rfl, hr2, hg2⟩; have hA := unhide HA w2 hg2; have cA := fun o => (hA.new o).cell; replace hA := hide hA; replace hr2 := hide hr2; replace hg2 := hide hg2))
    go_ret
    exact bits_end (unhide hA) (unhide hr2) (unhide hg2)
set_option maxHeartbeats 2000000 in
set_option maxRecDepth 100000 in
theorem bits_no1 {b count d : Nat} {l : List UInt8} {w : World} (hc : count ≤ 4096) (hd : d ≤ 64) (h : Rd w b l) (hl : l.length ≤ 140737488355328) (ht : takeD (bytesN count d) l = none) :
    Calls Tryz.prog 161 #[.pointer (some ⟨b, 0, none⟩), .int .i64 count, .int .i64 d] w fun e w' => e = dmg ∧ Gr w w' b := by
  have HB := hide (fun W => bytesfor_any count d W (by omega) hd)
  have HT := hide (fun W (hW : Rd W b l) => takeg_no hW hl ht)
  have HR := hide h
  clear h
  go_enter Tryz.func161, Tryz.ntmps161
  go_wp2_with (first
    | (go_at_call 157; refine (unhide HB _).mono ?_; rintro e w1 ⟨rfl, rfl⟩)
    | (go_at_call 160; refine (unhide HT _ ((unhide HR).alloc _)).mono ?_; rintro e w2 ⟨rfl, rfl⟩))
  exact ⟨rfl, rfl, Gr.alloc _ _ _⟩
set_option maxHeartbeats 2000000 in
set_option maxRecDepth 100000 in
theorem bits_no2 {b count d : Nat} {l t r : List UInt8} {w : World} (hc : count ≤ 4096) (hd : d ≤ 64) (h : Rd w b l) (hl : l.length ≤ 140737488355328) (ht : takeD (bytesN count d) l = some (t, r)) (hlt : ¬ leV t < 2 ^ (d * count)) :
    Calls Tryz.prog 161 #[.pointer (some ⟨b, 0, none⟩), .int .i64 count, .int .i64 d] w fun e w' => e = dmg ∧ Gr w w' b := by
  have HB := hide (fun W => bytesfor_any count d W (by omega) hd)
  have HT := hide (fun W (hW : Rd W b l) => takeg_yes hW hl ht)
  have htl : t.length = bytesN count d := by
    obtain ⟨h1, rfl, rfl⟩ := takeD_some ht
    rw [List.length_take]; omega
  have hne : w.heap.size ≠ b := by have := h.ne; omega
  have HA := hide (fun w2 (hg2 : Gr (w.alloc (.cells #[.int .i64 d] 3)) w2 b) => (At1.alloc w 3 (.int .i64 d)).gr hg2 hne)
  have HR := hide h
  have hN : count * d ≤ 4096 * 64 := Nat.mul_le_mul hc hd
  obtain ⟨N, hNe⟩ : ∃ N, N = count * d := ⟨_, rfl⟩
  have e1 : (count : Int) * (d : Int) = (N : Int) := by rw [hNe, Int.natCast_mul]
  have hf : 0 < N % 8 := by
    rcases Nat.eq_zero_or_pos (N % 8) with h0 | h0
    · exact absurd (bytes_f0 htl (by rw [← hNe]; exact h0)) hlt
    · exact h0
  have hf1 : t.length = N / 8 + 1 ∧ (leV t / 256 ^ (N / 8) % 256 / 2 ^ (N % 8) = 0 ↔ leV t < 2 ^ (d * count)) := by
    rw [hNe] at hf ⊢; exact bytes_f1 htl hf
  rw [← hNe] at hN
  have HLT := hide hlt
  clear h htl hNe ht hne hlt
  obtain ⟨hf2, hf3⟩ := hf1
  obtain ⟨q, f, hq, hf4⟩ : ∃ q f, q = N / 8 ∧ f = N % 8 := ⟨_, _, rfl, rfl⟩
  rw [← hq, ← hf4] at hf3
  have hix := idx_bs t q (by omega)
  have e2 : (N : Int) % 8 = (f : Int) := by omega
  have e3 : ((bs t).size : Int) - 1 = (q : Int) := by rw [bs_size]; omega
  have hs0 : ((bs t).size : Int) ≤ 1000000 := by rw [bs_size]; omega
  obtain ⟨Y, hY⟩ : ∃ Y, Y = leV t / 256 ^ q % 256 := ⟨_, rfl⟩
  rw [← hY] at hf3
  simp only [← hY] at hix
  have hY2 : Y < 256 := by rw [hY]; exact Nat.mod_lt _ (by decide)
  have HZ : Hid (¬ Y / 2 ^ f = 0) := fun h => unhide HLT (hf3.1 h)
  have hfp : (0 : Int) < (f : Int) := by omega
  have hf8 : f < 8 := by omega
  clear hf2 hf3 hq hf4 hf hY
  go_enter Tryz.func161, Tryz.ntmps161
  go_wp2_with (first
    | (go_at_call 157; refine (unhide HB _).mono ?_; rintro e w1 ⟨rfl, rfl⟩)
    | (go_at_call 160; refine (unhide HT _ ((unhide HR).alloc _)).mono ?_; rintro e w2 ⟨rfl, hr2, hg2⟩; have hA := unhide HA w2 hg2; have cA := fun o => (hA.new o).cell; replace hA := hide hA; replace hr2 := hide hr2; replace hg2 := hide hg2)
    | (go_at_call 149; refine (ensureF _ (by rw [tst0]; exact decide_eq_false (unhide HZ)) _).mono ?_; rintro e w3 ⟨rfl, rfl⟩))
  exact ⟨rfl, rfl, ((Gr.alloc _ _ _).trans (unhide hg2)).trans (Gr.alloc _ _ _)⟩
theorem bitsd_yes {b count d : Nat} {l t r : List UInt8} {w : World} (hc : count ≤ 4096) (hd : d ≤ 64) (h : Rd w b l) (hl : l.length ≤ 140737488355328) (hb : bitsD count d l = some (t, r)) :
    Calls Tryz.prog 161 #[.pointer (some ⟨b, 0, none⟩), .int .i64 count, .int .i64 d] w fun e w' => BitsR w w' e b d t r := by
  unfold bitsD at hb
  cases ht : takeD (bytesN count d) l with
  | none => rw [ht] at hb; cases hb
  | some p =>
    rw [ht, Option.bind_some] at hb
    split at hb
    · injection hb with hb; subst hb
      exact bits_yes hc hd h hl ht (by assumption)
    · cases hb
theorem bitsd_no {b count d : Nat} {l : List UInt8} {w : World} (hc : count ≤ 4096) (hd : d ≤ 64) (h : Rd w b l) (hl : l.length ≤ 140737488355328) (hb : bitsD count d l = none) :
    Calls Tryz.prog 161 #[.pointer (some ⟨b, 0, none⟩), .int .i64 count, .int .i64 d] w fun e w' => e = dmg ∧ Gr w w' b := by
  unfold bitsD at hb
  cases ht : takeD (bytesN count d) l with
  | none => exact bits_no1 hc hd h hl ht
  | some p =>
    rw [ht, Option.bind_some] at hb
    split at hb
    · cases hb
    · exact bits_no2 hc hd h hl ht (by assumption)
theorem bitsD_some {count d : Nat} {l t r : List UInt8} (hb : bitsD count d l = some (t, r)) : t.length = bytesN count d ∧ leV t < 2 ^ (d * count) ∧ r.length ≤ l.length ∧ l = t ++ r := by
  unfold bitsD at hb
  cases ht : takeD (bytesN count d) l with
  | none => rw [ht] at hb; cases hb
  | some p =>
    rw [ht, Option.bind_some] at hb
    split at hb
    · injection hb with hb; subst hb
      obtain ⟨h1, rfl, rfl⟩ := takeD_some ht
      exact ⟨by rw [List.length_take]; omega, by assumption, by simp, by simp⟩
    · cases hb
end Go.Proofs.YthbfomcmjjnikaaGreat
set_option linter.unusedSimpArgs false
set_option linter.unusedVariables false
namespace Go.Proofs.YthbfomcmjjnikaaGreat
open Go.RowKit Go.Sort

def nullB (x : Val) : Bool := x.k == 0

theorem vindex_any (a : Option Addr) (c : Nat) (xs : List Val) (w : World) (l : xs.length ≤ 1048576) (h : RowAt w a xs) :
    Calls Tryz.prog 74 #[.slice a xs.length c, .func (.func 102) #[] #[]] w fun e w' => (∃ i : Int, e = .returned (.int .i64 i) ∧ Hid (decide (0 ≤ i) = xs.any nullB)) ∧ Below w.heap.size w w' := by
  have H := hide h
  clear h
  go_enter Tryz.func74, Tryz.ntmps74
  go_wp2_with fail
  go_loopw [8] (fun i wr => ∃ k : Nat, k ≤ xs.length ∧ i = .int .i64 k ∧ Hid (∀ i y, i < k → xs[i]? = some y → nullB y = false) ∧ Below w.heap.size w wr) (fun i _ => xs.length - (intOf i).toNat)
  case atStart => exact ⟨0, Nat.zero_le _, rfl, fun i y h => by omega, Below.refl _ _⟩
  case round =>
    obtain ⟨k, hk, rfl, HN, hb⟩ := hrel
    by_cases h1 : k < xs.length
    · obtain ⟨x, hx⟩ : ∃ x, xs[k]? = some x := ⟨_, List.getElem?_eq_getElem h1⟩
      rcases (unhide H).later hb with e | ⟨rb, ro, rfl, hc⟩
      · rw [e] at hx; cases hx
      obtain ⟨c0, c1, c2⟩ := hc k x hx
      have HX := hide hx
      have HB := hide hb
      have i1 : (k : Int) < (xs.length : Int) := by omega
      have HP := hide (fun W => pnull_any x W)
      clear hx hc hb
      rcases Bool.eq_false_or_eq_true (nullB x) with e1 | e1
      · have HE : Hid (decide (0 ≤ (k : Int)) = xs.any nullB) := by
          show _ = _
          have : xs.any nullB = true := List.any_eq_true.2 ⟨x, List.mem_of_getElem? (unhide HX), e1⟩
          rw [this]; simp
        have e2 : (x.k == 0) = true := e1
        rw [e2] at HP
        go_wp2_with (go_at_call 102; refine (unhide HP _).mono ?_; rintro e w1 ⟨rfl, hb1⟩)
        go_ret
        exact ⟨⟨_, rfl, HE⟩, below_step (unhide HB) hb1⟩
      · have e2 : (x.k == 0) = false := e1
        rw [e2] at HP
        have HS : Hid (∀ i y, i < k + 1 → xs[i]? = some y → nullB y = false) := fun i y hi hy => by
          by_cases h : i < k
          · exact unhide HN i y h hy
          · have : i = k := by omega
            subst this
            rw [unhide HX] at hy
            injection hy with hy
            rw [← hy]; exact e1
        go_wp2_with (go_at_call 102; refine (unhide HP _).mono ?_; rintro e w1 ⟨rfl, hb1⟩)
        go_roundw
        case rel => exact ⟨k + 1, by omega, by go_num, HS, below_step (unhide HB) hb1⟩
        case measure => first | (simp [intOf]; omega) | (simp only [intOf]; omega)
    · have i1 : ¬ (k : Int) < (xs.length : Int) := by omega
      have HE : Hid (decide (0 ≤ (-1 : Int)) = xs.any nullB) := by
        show _ = _
        have e : k = xs.length := by omega
        have : xs.any nullB = false := by
          rw [List.any_eq_false]
          intro y hy
          obtain ⟨i, hi, rfl⟩ := List.getElem_of_mem hy
          rw [unhide HN i _ (by omega) (List.getElem?_eq_getElem hi)]
          simp
        rw [this]; rfl
      have HB := hide hb
      clear hb
      go_wp2
      go_ret
      exact ⟨⟨_, rfl, HE⟩, unhide HB⟩
theorem vcontains_any (a : Option Addr) (c : Nat) (xs : List Val) (w : World) (l : xs.length ≤ 1048576) (h : RowAt w a xs) :
    Calls Tryz.prog 49 #[.slice a xs.length c, .func (.func 102) #[] #[]] w fun e w' => e = .returned (.bool (xs.any nullB)) ∧ Below w.heap.size w w' := by
  have HI := hide (vindex_any a c xs w l h)
  generalize xs.any nullB = Z at HI ⊢
  clear h l
  go_enter Tryz.func49, Tryz.ntmps49
  go_wp2_with (go_at_call 74; refine (unhide HI).mono ?_; rintro e w1 ⟨⟨i, rfl, HE⟩, hb1⟩)
  go_ret
  exact ⟨by rw [← unhide HE]; rfl, hb1⟩
end Go.Proofs.YthbfomcmjjnikaaGreat
set_option linter.unusedSimpArgs false
set_option linter.unusedVariables false
namespace Go.Proofs.YthbfomcmjjnikaaGreat
open Go.RowKit Go.Sort

theorem c3_all (xs : List Val) : ∀ u ∈ xs.flatMap c3, u.oneCell' = true := by
  intro u hu
  obtain ⟨x, _, hx⟩ := List.mem_flatMap.1 hu
  exact c3_one x u hx
theorem row_cells {w : World} {b off : Nat} {xs : List Val} (h : RowAt w (some ⟨b, off, none⟩) xs) : ∀ j u, (xs.flatMap c3)[j]? = some u → w.cell? ((⟨b, off, none⟩ : Addr).add j) = some u := by
  intro j u hj
  rw [Addr.add_lit]
  have hlt : j < xs.length * 3 := by rw [← flat_len]; exact (List.getElem?_eq_some_iff.1 hj).1
  obtain ⟨x, hx⟩ : ∃ x, xs[j / 3]? = some x := ⟨_, List.getElem?_eq_getElem (by omega)⟩
  have hf := flat_at xs (j / 3) (j % 3) x hx (by omega)
  rw [show j / 3 * 3 + j % 3 = j by omega, hj] at hf
  rcases h with h | ⟨b', off', e, h⟩
  · subst h; simp at hlt
  · injection e with e
    injection e with e1 e2
    subst e1 e2
    obtain ⟨h0, h1, h2⟩ := h (j / 3) x hx
    have h3 : j % 3 = 0 ∨ j % 3 = 1 ∨ j % 3 = 2 := by omega
    rcases h3 with h3 | h3 | h3 <;> rw [h3] at hf <;> simp [c3] at hf <;> subst hf
    · rw [show off + j = off + j / 3 * 3 by omega]; exact h0
    · rw [show off + j = off + j / 3 * 3 + 1 by omega]; exact h1
    · rw [show off + j = off + j / 3 * 3 + 2 by omega]; exact h2

set_option maxHeartbeats 2000000 in
set_option maxRecDepth 100000 in
theorem vclone_any (aa : Option Addr) (ca : Nat) (xs : List Val) (w : World) (hl : xs.length ≤ 1048576) (hspot : ∀ ad, aa = some ad → ∃ b o, ad = ⟨b, o, none⟩) (ha : RowAt w aa xs) (hn : aa = none → xs = []) :
    Calls Tryz.prog 115 #[.slice aa xs.length ca] w fun e w' => ∃ v, e = .returned v ∧ OwnV w' w.heap.size v xs ∧ Below w.heap.size w w' := by
  obtain ⟨i4, hi4, z40, z41, z42⟩ := info_parts Tryz.info59
  cases aa with
  | none =>
    have hx := hn rfl
    subst hx
    clear hn ha
    have hcmp : ∀ w', (binOp .eql 37 (.slice none 0 ca) (.slice none 0 0)).run Tryz.prog w' = .ok (.bool true) w' := fun w' => by rw [Go.Lib.run_eql_slice_nil w' 37 59 none 0 ca 0 0 Tryz.underlying37]; rfl
    go_enter Tryz.func115, Tryz.ntmps115
    go_wp2
    go_ret
    exact ⟨_, rfl, World.ownsRow_nil _ _ _ _, Below.refl _ _⟩
  | some ad =>
    obtain ⟨b, o, rfl⟩ := hspot _ rfl
    have hcmp : ∀ w', (binOp .eql 37 (.slice (some ⟨b, o, none⟩) xs.length ca) (.slice none 0 0)).run Tryz.prog w' = .ok (.bool false) w' := fun w' => by rw [Go.Lib.run_eql_slice_nil w' 37 59 _ _ _ 0 0 Tryz.underlying37]; rfl
    have bl := below_alloc (Below.refl _ w) (.cells #[] 59)
    have HA := hide (ha.later bl)
    clear ha hn hspot
    go_enter Tryz.func115, Tryz.ntmps115
    go_wp2_with (at_builtin; refine wpList_append_own_at _ rfl (.tmp 5) (.tmp 6) 37 rfl w.heap.size 59 i4 (.agg #[.int .i64 0, .int .i64 0, .string ⟨#[]⟩]) 3 32 Tryz.underlying37 hi4 z40 z41 z42 rfl (by decide) (.slice (some ⟨w.heap.size, 0, none⟩) 0 0) 0 [] rfl ?_ ⟨b, o, none⟩ xs.length ca (xs.flatMap c3) rfl (flat_len xs) (row_cells (unhide HA)) (c3_all xs) (by unfold maxLen; omega) (by omega) (by simp) ?_)
    · exact ⟨rfl, .inr ⟨w.heap.size, 0, #[], rfl, Nat.le_refl _, Go.Deep.blk_alloc_new _ _, Nat.le_refl _, Nat.zero_le _, rfl, rfl⟩⟩
    · intro v1 w3 hown1 hgrow1 _ hat1
      have HO : Hid (OwnV w3 w.heap.size v1 xs) := by
        show OwnV w3 w.heap.size v1 xs
        unfold OwnV
        simpa using hown1
      have HB := hide (bl.trans (grown_below (B := w.heap.size) hgrow1 (by simp) (fun g hg => by simp [Value.ownBlock] at hg; omega)))
      clear hown1 hgrow1 hat1 bl
      go_wp2
      go_ret
      exact ⟨_, rfl, unhide HO, unhide HB⟩
end Go.Proofs.YthbfomcmjjnikaaGreat

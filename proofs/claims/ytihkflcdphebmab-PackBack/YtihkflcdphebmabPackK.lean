import Derived.Test.YtihkflcdphebmabPackJ
set_option linter.unusedSimpArgs false
set_option linter.unusedVariables false
namespace Go.Proofs.Ytihkflcdphebmab
open Go.RowKit Go.Sort Go.Lib

def zeroB (n : Nat) : ByteArray := ⟨Array.replicate n 0⟩
theorem zeroB_size (n : Nat) : (zeroB n).size = n := by simp [zeroB, ByteArray.size]
theorem zeroB_cells (n : Nat) : strCells (zeroB n) = List.replicate n (.int .u8 0) := by simp [strCells, zeroB]
theorem zeroB_map (n : Nat) : ((zeroB n).data.map fun b => Value.int .u8 (b.toNat : Int)) = Builtin.zeroCells (Value.int .u8 0).cells n := by
  apply Array.ext
  · simp [zeroB, Builtin.zeroCells, Value.cells]
  · intro i h1 h2
    simp [zeroB, Builtin.zeroCells, Value.cells, Nat.mod_one]
theorem zeroC_nil : Builtin.zeroCells (Value.int .u8 0).cells 0 = #[] := by simp [Builtin.zeroCells]
theorem zeroC_size (n : Nat) : (Builtin.zeroCells (Value.int .u8 0).cells n).size = n := by simp [Builtin.zeroCells, Value.cells]
set_option maxHeartbeats 1000000 in
theorem append_zeros_eq (ty : TypeId) (i : TypeInfo) (hi : Try.prog.info? 5 = some i) (hz : i.zero = some (.int .u8 0)) (hsize : i.size = 1) (hby : i.bytes = 1) (a : Option Addr) (l c n : Nat) (w : World) (hl : l + n ≤ 140737488355328) (hn : n ≤ 1000000000) (hlc : l ≤ c) :
    (Builtin.append_ #[76, 3] ty #[.slice a l c, .int .i64 n]).run Try.prog w = (Builtin.append_ #[76, 9] ty #[.slice a l c, .string (zeroB n)]).run Try.prog w := by
  have hw : IntKind.i64.wrap (n : Int) = n := by simp [IntKind.wrap, IntKind.signed, IntKind.bits]; omega
  have hf := run_firstCells_string (P := Try.prog) w 1 (zeroB n)
  rw [zeroB_size] at hf
  have wz : IntKind.i64.wrap 0 = 0 := by decide
  have h1 : ¬ ((n : Int) < 0) := by omega
  have h2 : ¬ ((n : Int) * 1 > 2 ^ 48) := by omega
  have h3 : ¬ ((281474976710656 : Int) < (n : Int)) := by omega
  have h4 : ¬ ((9223372036854775807 : Int) < (l : Int) + (n : Int)) := by omega
  have htk : List.take n (Builtin.zeroCells (Value.int .u8 0).cells n).toList = (Builtin.zeroCells (Value.int .u8 0).cells n).toList := List.take_of_length_le (by rw [Array.length_toList, zeroC_size]; exact Nat.le_refl _)
  have hex : (Builtin.zeroCells (Value.int .u8 0).cells n).extract 0 n = Builtin.zeroCells (Value.int .u8 0).cells n := by
    apply Array.ext'
    simpa using htk
  by_cases hroom : l + n ≤ c
  · by_cases h0 : n = 0
    · subst h0
      simp at hroom
      simp [wz, hroom, Builtin.append_, run_underlying Try.underlying76, run_underlying Try.underlying9, run_underlying Try.underlying3, sizeOf, typeInfo, hi, hsize, hby, hz, Builtin.lenOf, zeroB_size, hw, asInt, asIntOf, h1, h2, h3, h4, zeroValue, Builtin.firstCells, zeroB_map, zeroC_nil, zeroC_size, IntKind.max, IntKind.signed, IntKind.bits]
    · simp [hroom, h0, Builtin.append_, run_underlying Try.underlying76, run_underlying Try.underlying9, run_underlying Try.underlying3, sizeOf, typeInfo, hi, hsize, hby, hz, Builtin.lenOf, zeroB_size, hw, asInt, asIntOf, h1, h2, h3, h4, zeroValue, Builtin.firstCells, zeroB_map, zeroC_nil, zeroC_size, IntKind.max, IntKind.signed, IntKind.bits, htk, hex]
  have h5 : ¬ (281474976710656 < Builtin.nextslicecap (l + n) c) := by have := growslice_fits (need := l + n) (old := c) (bytes := 1) (by omega) (by omega); omega
  have h0 : ¬ n = 0 := by omega
  simp [hroom, h5, h0, Builtin.append_, run_underlying Try.underlying76, run_underlying Try.underlying9, run_underlying Try.underlying3, sizeOf, typeInfo, hi, hsize, hby, hz, Builtin.lenOf, zeroB_size, hw, asInt, asIntOf, h1, h2, h3, h4, zeroValue, Builtin.firstCells, zeroB_map, zeroC_nil, zeroC_size, IntKind.max, IntKind.signed, IntKind.bits, htk, hex]
theorem wpList_append_zeros {ops : Array Oper} {rest : List Oper} {o : Oper} {a : Act} {Q : Exit → Act → World → Prop} (w : World) (hgd : o.guard = none) (s x : Operand) (ho : o.op = .call { callee := .builtin .append, args := #[s, x], argTypes := #[76, 3] })
    (base : Nat) (v : Value) (n : Nat) (zs : List Int) (hs : a.eval s = v) (hx : a.eval x = .int .i64 (n : Int)) (hown : OwnB w base v zs) (hlen : zs.length + n ≤ 140737488355328) (hn : n ≤ 1000000000) (hbase : base ≤ w.heap.size)
    (h : ∀ v' w', OwnB w' base v' (zs ++ List.replicate n 0) → Grew w w' v v' → wpList Try.prog ops Q rest (a.put o.dst v') w') : wpList Try.prog ops Q (o :: rest) a w := by
  obtain ⟨i0, hi, hz0, hz1, hz2⟩ := info_parts Try.info5
  obtain ⟨v', w', hr, h2, h3, h4⟩ := append_str o.type hi hz0 hz1 hz2 hown (zeroB n) (by rw [zeroB_size]; exact hlen) hbase
  have hv : ∃ aa cap, v = .slice aa zs.length cap ∧ zs.length ≤ cap := by
    rcases hown.2 with ⟨rfl, h0⟩ | ⟨g, cap, cur, rfl, hb, hh, hc, _⟩
    · exact ⟨none, 0, by rw [h0], by omega⟩
    · exact ⟨_, _, rfl, hc⟩
  obtain ⟨aa, cap, rfl, hlc⟩ := hv
  rw [← append_zeros_eq o.type i0 hi hz0 hz1 hz2 aa zs.length cap n w hlen hn hlc] at hr
  refine wpList_plain hgd fun K hK => ?_
  unfold Oper.wp execOp
  simp only [ho, resolve, invoke, builtin, Sem.run_bind, Sem.run_pure, Result.andThen_ok, List.map_toArray, List.map_cons, List.map_nil, hs, hx, hr]
  refine hK _ _ (h v' w' ?_ ⟨h3, ?_⟩)
  · refine ownB_app (m := n) (by simp) ?_
    rw [zeroB_size, zeroB_cells] at h2
    simpa using h2
  · rcases h4 with e | e
    · exact .inl e
    · exact .inr ⟨_, e, Nat.le_refl _⟩
end Go.Proofs.Ytihkflcdphebmab

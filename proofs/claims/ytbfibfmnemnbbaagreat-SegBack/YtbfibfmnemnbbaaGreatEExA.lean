import Derived.Test.YtbfibfmnemnbbaaGreatECellC
import Derived.Test.YtbfibfmnemnbbaaGreatECellB
set_option linter.unusedSimpArgs false
set_option linter.unusedVariables false
set_option maxHeartbeats 4000000
set_option maxRecDepth 100000
namespace Go.Proofs.YtbfibfmnemnbbaaGreat.E
open Go.RowKit Go.Sort
def nullB(x:Val):Bool:=(cleanV x).k == 0
theorem nullB_eq(x:Val):nullB x=(x.k != 1 && x.k != 2):=by
 unfold nullB cleanV
 rcases Bool.eq_false_or_eq_true (x.k == 1) with h1|h1<;>rcases Bool.eq_false_or_eq_true (x.k == 2) with h2|h2<;>simp[h1,h2,bne,Val.num,Val.str,Val.null]
theorem isNull_any(x:Val)(w:World) :
  Calls Tryz.prog 138 #[x.v] w fun e w'=>e=.returned (.bool (nullB x))/\Below w.heap.size w w':=by
 rw[x.open_,nullB_eq]
 rcases Bool.eq_false_or_eq_true (x.k != 1) with hk|hk
 ·go_enter Tryz.func138,Tryz.ntmps138
  go_wp2
  go_ret
  exact⟨by simp[hk],(Below.refl _ _).alloc (Nat.le_refl _) _⟩
 ·go_enter Tryz.func138,Tryz.ntmps138
  go_wp2
  go_ret
  exact⟨by simp[hk],(Below.refl _ _).alloc (Nat.le_refl _) _⟩
def testB(op o:Int):Option Bool:=
 if op == 12 then some (o == 0) else if op == 13 then some (o != 0) else if op == 14 then some (decide (o<0)) else if op == 15 then some (decide (o<=0)) else if op == 16 then some (decide (0<o)) else if op == 17 then some (decide (0<=o)) else none
def testR(op o:Int):Val:=match testB op o with|some t=>truthV t|none=>.null
def testV(op:Int)(a b:Val):Val:=if nullB a || nullB b then .null else testR op (ordV a b)
theorem testR_some{op o:Int}{t:Bool}(h:testB op o=some t):testR op o=truthV t:=by simp[testR,h]
theorem testR_none{op o:Int}(h:testB op o=none):testR op o=.null:=by simp[testR,h]
theorem test_any(op:Int)(a b:Val)(w:World) :
  Calls Tryz.prog 116 #[.int .i64 op,a.v,b.v] w fun e w'=>e=.returned (testV op a b).v/\Below w.heap.size w w':=by
 rw[a.open_,b.open_]
 unfold testV
 have HA:=hide (isNull_any a)
 have HB:=hide (isNull_any b)
 have HO:=hide (order_any a b)
 have B:Below (boxes3 w a b).heap.size (boxes3 w a b) (boxes3 w a b):=Below.refl _ _
 generalize ordV a b=o at *
 generalize nullB a=na at *
 generalize nullB b=nb at *
 cases na
 ·cases nb
  ·simp only[Bool.or_self,Bool.false_eq_true,if_false]
   rcases Bool.eq_false_or_eq_true (op == 12) with h12|h12
   ·rw[testR_some (t:=(o == 0)) (by simp[testB, *])]
    go_enter Tryz.func116,Tryz.ntmps116
    go_wp2_with (first
    | (go_at_call_of 138 (Value.agg #[Value.int IntKind.i64 a.k,Value.int IntKind.i64 a.n,Value.string a.s]);refine(unhide HA _).mono ?_;rintro e w1 ⟨rfl,hb1⟩;replace B:=below_step B hb1;clear hb1;obtain⟨⟨a0,a1,a2⟩,⟨b0,b1,b2⟩,⟨f0,f1,f2⟩,⟨g0,g1,g2⟩,⟨z0,z1,z2,z3,z4,z5⟩,hz⟩:=boxes3_facts B)
    | (go_at_call_of 138 (Value.agg #[Value.int IntKind.i64 b.k,Value.int IntKind.i64 b.n,Value.string b.s]);refine(unhide HB _).mono ?_;rintro e w1 ⟨rfl,hb1⟩;replace B:=below_step B hb1;clear hb1;obtain⟨⟨a0,a1,a2⟩,⟨b0,b1,b2⟩,⟨f0,f1,f2⟩,⟨g0,g1,g2⟩,⟨z0,z1,z2,z3,z4,z5⟩,hz⟩:=boxes3_facts B)
    | (go_at_call 80;refine(unhide HO _).mono ?_;rintro e w1 ⟨rfl,hb1⟩;replace B:=below_step B hb1;clear hb1;obtain⟨⟨a0,a1,a2⟩,⟨b0,b1,b2⟩,⟨f0,f1,f2⟩,⟨g0,g1,g2⟩,⟨z0,z1,z2,z3,z4,z5⟩,hz⟩:=boxes3_facts B)
    | (go_at_call 137;refine(truth_any _ _).mono ?_;rintro e w1 ⟨rfl,hb1⟩;replace B:=below_step B hb1;clear hb1;rw[Val.open_];obtain⟨⟨a0,a1,a2⟩,⟨b0,b1,b2⟩,⟨f0,f1,f2⟩,⟨g0,g1,g2⟩,⟨z0,z1,z2,z3,z4,z5⟩,hz⟩:=boxes3_facts B))
    refine bodyPost_ret (v:=(truthV (o == 0)).v) (by simp[results,Tryz.results116,go_sem,Val.v, *]) rfl ⟨rfl,?_⟩
    exact((((boxes3_below B).setCell (by simp<;>omega) _).setCell (by simp<;>omega) _).setCell (by simp<;>omega) _)
   rcases Bool.eq_false_or_eq_true (op == 13) with h13|h13
   ·rw[testR_some (t:=(o != 0)) (by simp[testB, *])]
    go_enter Tryz.func116,Tryz.ntmps116
    go_wp2_with (first
    | (go_at_call_of 138 (Value.agg #[Value.int IntKind.i64 a.k,Value.int IntKind.i64 a.n,Value.string a.s]);refine(unhide HA _).mono ?_;rintro e w1 ⟨rfl,hb1⟩;replace B:=below_step B hb1;clear hb1;obtain⟨⟨a0,a1,a2⟩,⟨b0,b1,b2⟩,⟨f0,f1,f2⟩,⟨g0,g1,g2⟩,⟨z0,z1,z2,z3,z4,z5⟩,hz⟩:=boxes3_facts B)
    | (go_at_call_of 138 (Value.agg #[Value.int IntKind.i64 b.k,Value.int IntKind.i64 b.n,Value.string b.s]);refine(unhide HB _).mono ?_;rintro e w1 ⟨rfl,hb1⟩;replace B:=below_step B hb1;clear hb1;obtain⟨⟨a0,a1,a2⟩,⟨b0,b1,b2⟩,⟨f0,f1,f2⟩,⟨g0,g1,g2⟩,⟨z0,z1,z2,z3,z4,z5⟩,hz⟩:=boxes3_facts B)
    | (go_at_call 80;refine(unhide HO _).mono ?_;rintro e w1 ⟨rfl,hb1⟩;replace B:=below_step B hb1;clear hb1;obtain⟨⟨a0,a1,a2⟩,⟨b0,b1,b2⟩,⟨f0,f1,f2⟩,⟨g0,g1,g2⟩,⟨z0,z1,z2,z3,z4,z5⟩,hz⟩:=boxes3_facts B)
    | (go_at_call 137;refine(truth_any _ _).mono ?_;rintro e w1 ⟨rfl,hb1⟩;replace B:=below_step B hb1;clear hb1;rw[Val.open_];obtain⟨⟨a0,a1,a2⟩,⟨b0,b1,b2⟩,⟨f0,f1,f2⟩,⟨g0,g1,g2⟩,⟨z0,z1,z2,z3,z4,z5⟩,hz⟩:=boxes3_facts B))
    refine bodyPost_ret (v:=(truthV (o != 0)).v) (by simp[results,Tryz.results116,go_sem,Val.v, *]) rfl ⟨rfl,?_⟩
    exact((((boxes3_below B).setCell (by simp<;>omega) _).setCell (by simp<;>omega) _).setCell (by simp<;>omega) _)
   rcases Bool.eq_false_or_eq_true (op == 14) with h14|h14
   ·rw[testR_some (t:=(decide (o<0))) (by simp[testB, *])]
    go_enter Tryz.func116,Tryz.ntmps116
    go_wp2_with (first
    | (go_at_call_of 138 (Value.agg #[Value.int IntKind.i64 a.k,Value.int IntKind.i64 a.n,Value.string a.s]);refine(unhide HA _).mono ?_;rintro e w1 ⟨rfl,hb1⟩;replace B:=below_step B hb1;clear hb1;obtain⟨⟨a0,a1,a2⟩,⟨b0,b1,b2⟩,⟨f0,f1,f2⟩,⟨g0,g1,g2⟩,⟨z0,z1,z2,z3,z4,z5⟩,hz⟩:=boxes3_facts B)
    | (go_at_call_of 138 (Value.agg #[Value.int IntKind.i64 b.k,Value.int IntKind.i64 b.n,Value.string b.s]);refine(unhide HB _).mono ?_;rintro e w1 ⟨rfl,hb1⟩;replace B:=below_step B hb1;clear hb1;obtain⟨⟨a0,a1,a2⟩,⟨b0,b1,b2⟩,⟨f0,f1,f2⟩,⟨g0,g1,g2⟩,⟨z0,z1,z2,z3,z4,z5⟩,hz⟩:=boxes3_facts B)
    | (go_at_call 80;refine(unhide HO _).mono ?_;rintro e w1 ⟨rfl,hb1⟩;replace B:=below_step B hb1;clear hb1;obtain⟨⟨a0,a1,a2⟩,⟨b0,b1,b2⟩,⟨f0,f1,f2⟩,⟨g0,g1,g2⟩,⟨z0,z1,z2,z3,z4,z5⟩,hz⟩:=boxes3_facts B)
    | (go_at_call 137;refine(truth_any _ _).mono ?_;rintro e w1 ⟨rfl,hb1⟩;replace B:=below_step B hb1;clear hb1;rw[Val.open_];obtain⟨⟨a0,a1,a2⟩,⟨b0,b1,b2⟩,⟨f0,f1,f2⟩,⟨g0,g1,g2⟩,⟨z0,z1,z2,z3,z4,z5⟩,hz⟩:=boxes3_facts B))
    refine bodyPost_ret (v:=(truthV (decide (o<0))).v) (by simp[results,Tryz.results116,go_sem,Val.v, *]) rfl ⟨rfl,?_⟩
    exact((((boxes3_below B).setCell (by simp<;>omega) _).setCell (by simp<;>omega) _).setCell (by simp<;>omega) _)
   rcases Bool.eq_false_or_eq_true (op == 15) with h15|h15
   ·rw[testR_some (t:=(decide (o<=0))) (by simp[testB, *])]
    go_enter Tryz.func116,Tryz.ntmps116
    go_wp2_with (first
    | (go_at_call_of 138 (Value.agg #[Value.int IntKind.i64 a.k,Value.int IntKind.i64 a.n,Value.string a.s]);refine(unhide HA _).mono ?_;rintro e w1 ⟨rfl,hb1⟩;replace B:=below_step B hb1;clear hb1;obtain⟨⟨a0,a1,a2⟩,⟨b0,b1,b2⟩,⟨f0,f1,f2⟩,⟨g0,g1,g2⟩,⟨z0,z1,z2,z3,z4,z5⟩,hz⟩:=boxes3_facts B)
    | (go_at_call_of 138 (Value.agg #[Value.int IntKind.i64 b.k,Value.int IntKind.i64 b.n,Value.string b.s]);refine(unhide HB _).mono ?_;rintro e w1 ⟨rfl,hb1⟩;replace B:=below_step B hb1;clear hb1;obtain⟨⟨a0,a1,a2⟩,⟨b0,b1,b2⟩,⟨f0,f1,f2⟩,⟨g0,g1,g2⟩,⟨z0,z1,z2,z3,z4,z5⟩,hz⟩:=boxes3_facts B)
    | (go_at_call 80;refine(unhide HO _).mono ?_;rintro e w1 ⟨rfl,hb1⟩;replace B:=below_step B hb1;clear hb1;obtain⟨⟨a0,a1,a2⟩,⟨b0,b1,b2⟩,⟨f0,f1,f2⟩,⟨g0,g1,g2⟩,⟨z0,z1,z2,z3,z4,z5⟩,hz⟩:=boxes3_facts B)
    | (go_at_call 137;refine(truth_any _ _).mono ?_;rintro e w1 ⟨rfl,hb1⟩;replace B:=below_step B hb1;clear hb1;rw[Val.open_];obtain⟨⟨a0,a1,a2⟩,⟨b0,b1,b2⟩,⟨f0,f1,f2⟩,⟨g0,g1,g2⟩,⟨z0,z1,z2,z3,z4,z5⟩,hz⟩:=boxes3_facts B))
    refine bodyPost_ret (v:=(truthV (decide (o<=0))).v) (by simp[results,Tryz.results116,go_sem,Val.v, *]) rfl ⟨rfl,?_⟩
    exact((((boxes3_below B).setCell (by simp<;>omega) _).setCell (by simp<;>omega) _).setCell (by simp<;>omega) _)
   rcases Bool.eq_false_or_eq_true (op == 16) with h16|h16
   ·rw[testR_some (t:=(decide (0<o))) (by simp[testB, *])]
    go_enter Tryz.func116,Tryz.ntmps116
    go_wp2_with (first
    | (go_at_call_of 138 (Value.agg #[Value.int IntKind.i64 a.k,Value.int IntKind.i64 a.n,Value.string a.s]);refine(unhide HA _).mono ?_;rintro e w1 ⟨rfl,hb1⟩;replace B:=below_step B hb1;clear hb1;obtain⟨⟨a0,a1,a2⟩,⟨b0,b1,b2⟩,⟨f0,f1,f2⟩,⟨g0,g1,g2⟩,⟨z0,z1,z2,z3,z4,z5⟩,hz⟩:=boxes3_facts B)
    | (go_at_call_of 138 (Value.agg #[Value.int IntKind.i64 b.k,Value.int IntKind.i64 b.n,Value.string b.s]);refine(unhide HB _).mono ?_;rintro e w1 ⟨rfl,hb1⟩;replace B:=below_step B hb1;clear hb1;obtain⟨⟨a0,a1,a2⟩,⟨b0,b1,b2⟩,⟨f0,f1,f2⟩,⟨g0,g1,g2⟩,⟨z0,z1,z2,z3,z4,z5⟩,hz⟩:=boxes3_facts B)
    | (go_at_call 80;refine(unhide HO _).mono ?_;rintro e w1 ⟨rfl,hb1⟩;replace B:=below_step B hb1;clear hb1;obtain⟨⟨a0,a1,a2⟩,⟨b0,b1,b2⟩,⟨f0,f1,f2⟩,⟨g0,g1,g2⟩,⟨z0,z1,z2,z3,z4,z5⟩,hz⟩:=boxes3_facts B)
    | (go_at_call 137;refine(truth_any _ _).mono ?_;rintro e w1 ⟨rfl,hb1⟩;replace B:=below_step B hb1;clear hb1;rw[Val.open_];obtain⟨⟨a0,a1,a2⟩,⟨b0,b1,b2⟩,⟨f0,f1,f2⟩,⟨g0,g1,g2⟩,⟨z0,z1,z2,z3,z4,z5⟩,hz⟩:=boxes3_facts B))
    refine bodyPost_ret (v:=(truthV (decide (0<o))).v) (by simp[results,Tryz.results116,go_sem,Val.v, *]) rfl ⟨rfl,?_⟩
    exact((((boxes3_below B).setCell (by simp<;>omega) _).setCell (by simp<;>omega) _).setCell (by simp<;>omega) _)
   rcases Bool.eq_false_or_eq_true (op == 17) with h17|h17
   ·rw[testR_some (t:=(decide (0<=o))) (by simp[testB, *])]
    go_enter Tryz.func116,Tryz.ntmps116
    go_wp2_with (first
    | (go_at_call_of 138 (Value.agg #[Value.int IntKind.i64 a.k,Value.int IntKind.i64 a.n,Value.string a.s]);refine(unhide HA _).mono ?_;rintro e w1 ⟨rfl,hb1⟩;replace B:=below_step B hb1;clear hb1;obtain⟨⟨a0,a1,a2⟩,⟨b0,b1,b2⟩,⟨f0,f1,f2⟩,⟨g0,g1,g2⟩,⟨z0,z1,z2,z3,z4,z5⟩,hz⟩:=boxes3_facts B)
    | (go_at_call_of 138 (Value.agg #[Value.int IntKind.i64 b.k,Value.int IntKind.i64 b.n,Value.string b.s]);refine(unhide HB _).mono ?_;rintro e w1 ⟨rfl,hb1⟩;replace B:=below_step B hb1;clear hb1;obtain⟨⟨a0,a1,a2⟩,⟨b0,b1,b2⟩,⟨f0,f1,f2⟩,⟨g0,g1,g2⟩,⟨z0,z1,z2,z3,z4,z5⟩,hz⟩:=boxes3_facts B)
    | (go_at_call 80;refine(unhide HO _).mono ?_;rintro e w1 ⟨rfl,hb1⟩;replace B:=below_step B hb1;clear hb1;obtain⟨⟨a0,a1,a2⟩,⟨b0,b1,b2⟩,⟨f0,f1,f2⟩,⟨g0,g1,g2⟩,⟨z0,z1,z2,z3,z4,z5⟩,hz⟩:=boxes3_facts B)
    | (go_at_call 137;refine(truth_any _ _).mono ?_;rintro e w1 ⟨rfl,hb1⟩;replace B:=below_step B hb1;clear hb1;rw[Val.open_];obtain⟨⟨a0,a1,a2⟩,⟨b0,b1,b2⟩,⟨f0,f1,f2⟩,⟨g0,g1,g2⟩,⟨z0,z1,z2,z3,z4,z5⟩,hz⟩:=boxes3_facts B))
    refine bodyPost_ret (v:=(truthV (decide (0<=o))).v) (by simp[results,Tryz.results116,go_sem,Val.v, *]) rfl ⟨rfl,?_⟩
    exact((((boxes3_below B).setCell (by simp<;>omega) _).setCell (by simp<;>omega) _).setCell (by simp<;>omega) _)
   rw[testR_none (by simp[testB, *])]
   go_enter Tryz.func116,Tryz.ntmps116
   go_wp2_with (first
    | (go_at_call_of 138 (Value.agg #[Value.int IntKind.i64 a.k,Value.int IntKind.i64 a.n,Value.string a.s]);refine(unhide HA _).mono ?_;rintro e w1 ⟨rfl,hb1⟩;replace B:=below_step B hb1;clear hb1;obtain⟨⟨a0,a1,a2⟩,⟨b0,b1,b2⟩,⟨f0,f1,f2⟩,⟨g0,g1,g2⟩,⟨z0,z1,z2,z3,z4,z5⟩,hz⟩:=boxes3_facts B)
    | (go_at_call_of 138 (Value.agg #[Value.int IntKind.i64 b.k,Value.int IntKind.i64 b.n,Value.string b.s]);refine(unhide HB _).mono ?_;rintro e w1 ⟨rfl,hb1⟩;replace B:=below_step B hb1;clear hb1;obtain⟨⟨a0,a1,a2⟩,⟨b0,b1,b2⟩,⟨f0,f1,f2⟩,⟨g0,g1,g2⟩,⟨z0,z1,z2,z3,z4,z5⟩,hz⟩:=boxes3_facts B)
    | (go_at_call 80;refine(unhide HO _).mono ?_;rintro e w1 ⟨rfl,hb1⟩;replace B:=below_step B hb1;clear hb1;obtain⟨⟨a0,a1,a2⟩,⟨b0,b1,b2⟩,⟨f0,f1,f2⟩,⟨g0,g1,g2⟩,⟨z0,z1,z2,z3,z4,z5⟩,hz⟩:=boxes3_facts B))
   refine bodyPost_ret (v:=Val.null.v) (by simp[results,Tryz.results116,go_sem,Val.v,Val.null, *]) rfl ⟨rfl,?_⟩
   exact((((boxes3_below B).setCell (by simp<;>omega) _).setCell (by simp<;>omega) _).setCell (by simp<;>omega) _)
  ·simp only[Bool.or_true,if_true]
   go_enter Tryz.func116,Tryz.ntmps116
   go_wp2_with (first
    | (go_at_call_of 138 (Value.agg #[Value.int IntKind.i64 a.k,Value.int IntKind.i64 a.n,Value.string a.s]);refine(unhide HA _).mono ?_;rintro e w1 ⟨rfl,hb1⟩;replace B:=below_step B hb1;clear hb1;obtain⟨⟨a0,a1,a2⟩,⟨b0,b1,b2⟩,⟨f0,f1,f2⟩,⟨g0,g1,g2⟩,⟨z0,z1,z2,z3,z4,z5⟩,hz⟩:=boxes3_facts B)
    | (go_at_call_of 138 (Value.agg #[Value.int IntKind.i64 b.k,Value.int IntKind.i64 b.n,Value.string b.s]);refine(unhide HB _).mono ?_;rintro e w1 ⟨rfl,hb1⟩;replace B:=below_step B hb1;clear hb1;obtain⟨⟨a0,a1,a2⟩,⟨b0,b1,b2⟩,⟨f0,f1,f2⟩,⟨g0,g1,g2⟩,⟨z0,z1,z2,z3,z4,z5⟩,hz⟩:=boxes3_facts B)
    | (go_at_call 80;refine(unhide HO _).mono ?_;rintro e w1 ⟨rfl,hb1⟩;replace B:=below_step B hb1;clear hb1;obtain⟨⟨a0,a1,a2⟩,⟨b0,b1,b2⟩,⟨f0,f1,f2⟩,⟨g0,g1,g2⟩,⟨z0,z1,z2,z3,z4,z5⟩,hz⟩:=boxes3_facts B))
   refine bodyPost_ret (v:=Val.null.v) (by simp[results,Tryz.results116,go_sem,Val.v,Val.null, *]) rfl ⟨rfl,?_⟩
   exact((((boxes3_below B).setCell (by simp<;>omega) _).setCell (by simp<;>omega) _).setCell (by simp<;>omega) _)
 ·simp only[Bool.true_or,if_true]
  go_enter Tryz.func116,Tryz.ntmps116
  go_wp2_with (first
    | (go_at_call_of 138 (Value.agg #[Value.int IntKind.i64 a.k,Value.int IntKind.i64 a.n,Value.string a.s]);refine(unhide HA _).mono ?_;rintro e w1 ⟨rfl,hb1⟩;replace B:=below_step B hb1;clear hb1;obtain⟨⟨a0,a1,a2⟩,⟨b0,b1,b2⟩,⟨f0,f1,f2⟩,⟨g0,g1,g2⟩,⟨z0,z1,z2,z3,z4,z5⟩,hz⟩:=boxes3_facts B)
    | (go_at_call_of 138 (Value.agg #[Value.int IntKind.i64 b.k,Value.int IntKind.i64 b.n,Value.string b.s]);refine(unhide HB _).mono ?_;rintro e w1 ⟨rfl,hb1⟩;replace B:=below_step B hb1;clear hb1;obtain⟨⟨a0,a1,a2⟩,⟨b0,b1,b2⟩,⟨f0,f1,f2⟩,⟨g0,g1,g2⟩,⟨z0,z1,z2,z3,z4,z5⟩,hz⟩:=boxes3_facts B)
    | (go_at_call 80;refine(unhide HO _).mono ?_;rintro e w1 ⟨rfl,hb1⟩;replace B:=below_step B hb1;clear hb1;obtain⟨⟨a0,a1,a2⟩,⟨b0,b1,b2⟩,⟨f0,f1,f2⟩,⟨g0,g1,g2⟩,⟨z0,z1,z2,z3,z4,z5⟩,hz⟩:=boxes3_facts B))
  refine bodyPost_ret (v:=Val.null.v) (by simp[results,Tryz.results116,go_sem,Val.v,Val.null, *]) rfl ⟨rfl,?_⟩
  exact((((boxes3_below B).setCell (by simp<;>omega) _).setCell (by simp<;>omega) _).setCell (by simp<;>omega) _)
theorem clean_clean(x:Val):cleanV (cleanV x)=cleanV x:=by
 unfold cleanV
 rcases Bool.eq_false_or_eq_true (x.k == 1) with h1|h1<;>rcases Bool.eq_false_or_eq_true (x.k == 2) with h2|h2<;>simp[h1,h2,Val.num,Val.str,Val.null]
end Go.Proofs.YtbfibfmnemnbbaaGreat.E
set_option linter.unusedSimpArgs false
set_option linter.unusedVariables false
namespace Go.Proofs.YtbfibfmnemnbbaaGreat.E
open Go.RowKit Go.Sort
inductive Ex where
 | mk (op n:Int) (v:Val) (args:List Ex)
def Ex.op:Ex->Int | .mk o _ _ _=>o
def Ex.n:Ex->Int | .mk _ n _ _=>n
def Ex.v:Ex->Val | .mk _ _ v _=>v
def Ex.args:Ex->List Ex | .mk _ _ _ l=>l
mutual
def Ex.size:Ex->Nat
 | .mk _ _ _ l=>Ex.sizes l+1
def Ex.sizes:List Ex->Nat
 | []=>0
 | e::l=>e.size+Ex.sizes l
end
theorem Ex.size_mk(e:Ex):e.size=Ex.sizes e.args+1:=by cases e;rw[Ex.size];rfl
theorem Ex.size_mem:∀{l:List Ex} {e:Ex},e∈l->e.size<=Ex.sizes l
 | [],_,h=>by cases h
 | x::l,e,h=>by
  rw[Ex.sizes]
  rcases List.mem_cons.1 h with rfl|h
  ·omega
  ·have:=Ex.size_mem h;omega
theorem Ex.size_arg{e x:Ex}{i:Nat}(h:e.args[i]?=some x):x.size<e.size:=by
 have:=Ex.size_mem (List.mem_of_getElem? h)
 rw[Ex.size_mk e];omega
def Ex.val(e:Ex)(a:Option Addr)(c:Nat):Value:=.agg #[.int .i64 e.op,.int .i64 e.n,.int .i64 e.v.k,.int .i64 e.v.n,.string e.v.s,.slice a e.args.length c]
theorem Ex.val_open(e:Ex)(a:Option Addr)(c:Nat):e.val a c=.agg #[.int .i64 e.op,.int .i64 e.n,.int .i64 e.v.k,.int .i64 e.v.n,.string e.v.s,.slice a e.args.length c]:=rfl
mutual
def Ex.at(w:World)(b off:Nat):Ex->Prop
 | .mk op n v l=>∃a c,(w.cell? ⟨b,off,none⟩=some (.int .i64 op)/\w.cell? ⟨b,off+1,none⟩=some (.int .i64 n)/\w.cell? ⟨b,off+2,none⟩=some (.int .i64 v.k)/\w.cell? ⟨b,off+3,none⟩=some (.int .i64 v.n)/\w.cell? ⟨b,off+4,none⟩=some (.string v.s)/\w.cell? ⟨b,off+5,none⟩=some (.slice a l.length c))/\Ex.all w a l
def Ex.all(w:World)(a:Option Addr):List Ex->Prop
 | []=>True
 | e::l=>∃b off,a=some ⟨b,off,none⟩/\Ex.at w b off e/\(Ex.all w (some ⟨b,off+6,none⟩) l)
end
theorem clater{w w':World}{b o:Nat}{v:Value}(h:w.cell? ⟨b,o,none⟩=some v)(hb:Below w.heap.size w w'):w'.cell? ⟨b,o,none⟩=some v:=by
 rw[(bcell hb).1 b o (World.block_lt_of_cell? _ _ h)];exact h
mutual
theorem Ex.at_later:∀(e:Ex) {w w':World} {b off:Nat},Ex.at w b off e->Below w.heap.size w w'->Ex.at w' b off e
 | .mk op n v l,w,w',b,off,h,hb=>by
  rw[Ex.at] at h ⊢
  obtain⟨a,c,⟨h0,h1,h2,h3,h4,h5⟩,h6⟩:=h
  exact⟨a,c,⟨clater h0 hb,clater h1 hb,clater h2 hb,clater h3 hb,clater h4 hb,clater h5 hb⟩,Ex.all_later l h6 hb⟩
theorem Ex.all_later:∀(l:List Ex) {w w':World} {a:Option Addr},Ex.all w a l->Below w.heap.size w w'->Ex.all w' a l
 | [],w,w',a,h,hb=>by rw[Ex.all];trivial
 | e::l,w,w',a,h,hb=>by
  rw[Ex.all] at h ⊢
  obtain⟨b,off,h1,h2,h3⟩:=h
  exact⟨b,off,h1,Ex.at_later e h2 hb,Ex.all_later l h3 hb⟩
end
theorem Ex.all_get{w:World}:∀{l:List Ex} {a:Option Addr} {i:Nat} {e:Ex},Ex.all w a l->l[i]?=some e->∃b off,a=some ⟨b,off,none⟩/\Ex.at w b (off+i*6) e
 | [],_,_,_,_,hi=>by simp at hi
 | x::l,a,0,e,h,hi=>by
  rw[Ex.all] at h
  obtain⟨b,off,h1,h2,_⟩:=h
  simp at hi
  subst hi
  exact⟨b,off,h1,by simpa using h2⟩
 | x::l,a,i+1,e,h,hi=>by
  rw[Ex.all] at h
  obtain⟨b,off,h1,_,h3⟩:=h
  obtain⟨b',off',e1,e2⟩:=Ex.all_get h3 (by simpa using hi:l[i]?=some e)
  injection e1 with e1
  injection e1 with e1 e3
  subst e1 e3
  refine⟨b,off,h1,?_⟩
  rw[show off+(i+1)*6=off+6+i*6 by omega]
  exact e2
theorem Ex.at_open{w:World}{b off:Nat}{e:Ex}(h:e.at w b off):∃a c,(w.cell? ⟨b,off,none⟩=some (.int .i64 e.op)/\w.cell? ⟨b,off+1,none⟩=some (.int .i64 e.n)/\w.cell? ⟨b,off+2,none⟩=some (.int .i64 e.v.k)/\w.cell? ⟨b,off+3,none⟩=some (.int .i64 e.v.n)/\w.cell? ⟨b,off+4,none⟩=some (.string e.v.s)/\w.cell? ⟨b,off+5,none⟩=some (.slice a e.args.length c))/\Ex.all w a e.args:=by
 cases e with
 | mk op n v l=>rw[Ex.at] at h;exact h
abbrev Ex.box (e:Ex) (a:Option Addr) (c:Nat):Obj:=.cells #[.int .i64 e.op,.int .i64 e.n,.int .i64 e.v.k,.int .i64 e.v.n,.string e.v.s,.slice a e.args.length c] 28
def Six(w:World)(b:Nat)(e:Ex)(a:Option Addr)(c:Nat):Prop:=w.cell? ⟨b,0,none⟩=some (.int .i64 e.op)/\w.cell? ⟨b,1,none⟩=some (.int .i64 e.n)/\w.cell? ⟨b,2,none⟩=some (.int .i64 e.v.k)/\w.cell? ⟨b,3,none⟩=some (.int .i64 e.v.n)/\w.cell? ⟨b,4,none⟩=some (.string e.v.s)/\w.cell? ⟨b,5,none⟩=some (.slice a e.args.length c)
theorem Six.later{w w':World}{b:Nat}{e:Ex}{a:Option Addr}{c:Nat}(h:Six w b e a c)(hb:Below w.heap.size w w'):Six w' b e a c:=
 ⟨clater h.1 hb,clater h.2.1 hb,clater h.2.2.1 hb,clater h.2.2.2.1 hb,clater h.2.2.2.2.1 hb,clater h.2.2.2.2.2 hb⟩
theorem Six.new(w:World)(e:Ex)(a:Option Addr)(c:Nat):Six (w.alloc (e.box a c)) w.heap.size e a c:=⟨by simp[go_sem],by simp[go_sem],by simp[go_sem],by simp[go_sem],by simp[go_sem],by simp[go_sem]⟩
def arI(op:Int):Int:=if op == 1 then 0 else if op == 2 then 0 else if decide (3<=op) && decide (op<=6) then 1 else if decide (7<=op) && decide (op<=20) then 2 else if op == 21 then 3 else -1
def soundE(e:Ex):Bool:=((e.args.length:Int) == arI e.op) && (if e.op == 1 then decide (0<=e.n) else if e.op == 2 then decide ((cleanV e.v).s.size<=1000) else true)
end Go.Proofs.YtbfibfmnemnbbaaGreat.E
set_option linter.unusedSimpArgs false
set_option linter.unusedVariables false
set_option maxHeartbeats 1000000
set_option maxRecDepth 100000
namespace Go.Proofs.YtbfibfmnemnbbaaGreat.E
open Go.RowKit Go.Sort
theorem arity_any(op:Int)(w:World):Calls Tryz.prog 97 #[.int .i64 op] w fun e w'=>e=.returned (.int .i64 (arI op))/\w'=w:=by
 by_cases h1:op=1
 ·subst h1
  go_enter Tryz.func97,Tryz.ntmps97
  go_wp2
  go_ret
  exact⟨rfl,rfl⟩
 by_cases h2:op=2
 ·subst h2
  go_enter Tryz.func97,Tryz.ntmps97
  go_wp2
  go_ret
  exact⟨rfl,rfl⟩
 have e1:(op == 1)=false:=by simpa using h1
 have e2:(op == 2)=false:=by simpa using h2
 by_cases h3:3<=op/\op<=6
 ·obtain⟨h3,h4⟩:=h3
  have e:arI op=1:=by simp[arI,e1,e2,h3,h4]
  rw[e]
  clear h1 h2 e
  go_enter Tryz.func97,Tryz.ntmps97
  go_wp2
  go_ret
  exact⟨rfl,rfl⟩
 by_cases h7:7<=op/\op<=20
 ·obtain⟨h5,h6⟩:=h7
  have e:arI op=2:=by
   have:¬op<=6:=by omega
   simp[arI,e1,e2,h5,h6,this]
  rw[e]
  have h3':3<=op:=by omega
  have h4':¬op<=6:=by omega
  clear h1 h2 e h3
  go_enter Tryz.func97,Tryz.ntmps97
  go_wp2
  go_ret
  exact⟨rfl,rfl⟩
 by_cases h21:op=21
 ·subst h21
  go_enter Tryz.func97,Tryz.ntmps97
  go_wp2
  go_ret
  exact⟨rfl,rfl⟩
 have e21:(op == 21)=false:=by simpa using h21
 have e:arI op=-1:=by
  unfold arI
  rw[e1,e2,e21]
  have g1:(decide (3<=op) && decide (op<=6))=false:=by simp;omega
  have g2:(decide (7<=op) && decide (op<=20))=false:=by simp;omega
  rw[g1,g2];rfl
 rw[e]
 have hc:(¬3<=op)∨(3<=op/\¬op<=6/\7<=op/\¬op<=20):=by omega
 clear h1 h2 h21 e h3 h7
 rcases hc with h3|⟨h3,h4,h5,h6⟩
 ·have h5:¬7<=op:=by omega
  go_enter Tryz.func97,Tryz.ntmps97
  go_wp2
  go_ret
  exact⟨rfl,rfl⟩
 ·go_enter Tryz.func97,Tryz.ntmps97
  go_wp2
  go_ret
  exact⟨rfl,rfl⟩
theorem field2(k n:Int)(s:ByteArray)(W:World):(Instr.field 25 (.agg #[.int .i64 k,.int .i64 n,.string s]) 2).run Tryz.prog W=.ok (.string s) W:=by kernel_rfl
theorem field0(k n:Int)(s:ByteArray)(W:World):(Instr.field 25 (.agg #[.int .i64 k,.int .i64 n,.string s]) 0).run Tryz.prog W=.ok (.int .i64 k) W:=by kernel_rfl
theorem arity_q(op:Int)(w:World):Calls Tryz.prog 97 #[.int .i64 op] w fun e w'=>e=.returned (.int .i64 (arI op))/\∃n,w'=w.drewN n:=
 (arity_any op w).mono fun e w' ⟨h1,h2⟩=>⟨h1,0,by rw[h2];rfl⟩
theorem sound_any(e:Ex)(a:Option Addr)(c:Nat)(w:World)(hl:e.args.length<=140737488355328)(hv:e.v.s.size<=140737488355328) :
  Calls Tryz.prog 75 #[e.val a c] w fun e' w'=>e'=.returned (.bool (soundE e))/\Below w.heap.size w w':=by
 rw[Ex.val_open]
 have HA:=hide (arity_q e.op)
 obtain⟨cv,hcv⟩:∃cv,cv=cleanV e.v:=⟨_,rfl⟩
 have HC:Hid (∀W,Calls Tryz.prog 23 #[e.v.v] W fun e' w'=>e'=.returned cv.v/\Below W.heap.size W w'):=fun W=>by rw[hcv];exact clean_any e.v W
 have hse:soundE e=(((e.args.length:Int) == arI e.op) && (if e.op == 1 then decide (0<=e.n) else if e.op == 2 then decide (cv.s.size<=1000) else true)):=by rw[hcv];rfl
 rw[hse]
 clear hse
 obtain⟨ar,har⟩:∃ar,ar=arI e.op:=⟨_,rfl⟩
 have HAR:Hid (∀W,Calls Tryz.prog 97 #[.int .i64 e.op] W fun e' w'=>e'=.returned (.int .i64 ar)/\w'=W):=fun W=>by rw[har];exact arity_any e.op W
 rw[<-har]
 obtain⟨R,hR⟩:∃R,R=(((e.args.length:Int) == ar) && (if e.op == 1 then decide (0<=e.n) else if e.op == 2 then decide (cv.s.size<=1000) else true)):=⟨_,rfl⟩
 rw[<-hR]
 have HR:=hide hR
 clear hR
 have H6:Hid (Six (w.alloc (.cells #[.int .i64 e.op,.int .i64 e.n,.int .i64 e.v.k,.int .i64 e.v.n,.string e.v.s,.slice a e.args.length c] 28)) w.heap.size e a c):=Six.new w e a c
 have HB:=hide (below_alloc (Below.refl _ w) (.cells #[.int .i64 e.op,.int .i64 e.n,.int .i64 e.v.k,.int .i64 e.v.n,.string e.v.s,.slice a e.args.length c] 28))
 clear HA har hcv
 go_enter Tryz.func75,Tryz.ntmps75
 go_upto_region 1 with fail
 obtain⟨wa,hwa⟩:∃wa,wa=w.alloc (.cells #[.int .i64 e.op,.int .i64 e.n,.int .i64 e.v.k,.int .i64 e.v.n,.string e.v.s,.slice a e.args.length c] 28):=⟨_,rfl⟩
 rw[<-hwa] at H6 HB ⊢
 clear hwa
 obtain⟨c0,c1,c2,c3,c4,c5⟩:=unhide H6
 obtain⟨bb,hbb⟩:∃bb,((e.args.length:Int) != ar)=bb:=⟨_,rfl⟩
 go_cut[9] (fun s9 wx=>s9=.bool bb/\Below wa.heap.size wa wx)
 case first=>
  go_region_with (go_at_call 97;refine(unhide HAR _).mono ?_;rintro e' wn ⟨rfl,rfl⟩)
  all_goals
   go_wp2
   go_meet
   exact⟨rfl,(Below.refl _ _).drew⟩
 case rest=>
  obtain⟨rfl,hb1⟩:=hcut
  rename World=>w1
  obtain⟨c0,c1,c2,c3,c4,c5⟩:=(unhide H6).later hb1
  have HB1:=hide (below_step (unhide HB) hb1)
  have hee:((e.args.length:Int) == ar)=!bb:=by rw[<-hbb];simp[bne]
  rw[hee] at HR
  clear hee hbb
  cases bb with
  | true=>
   go_wp2
   go_ret
   exact⟨by rw[unhide HR];rfl,unhide HB1⟩
  | false=>
   rcases Bool.eq_false_or_eq_true (e.op == 1) with h1|h1
   ·rw[h1] at HR
    go_wp2
    go_ret
    exact⟨by rw[unhide HR];simp,unhide HB1⟩
   ·rw[h1] at HR
    rcases Bool.eq_false_or_eq_true (e.op == 2) with h2|h2
    ·rw[h2] at HR
     rw[Val.open_] at HC
     have hf2:=field2
     go_wp2_with (go_at_call 23;refine(unhide HC _).mono ?_;rintro e' w2 ⟨rfl,hb2⟩;rw[Val.open_])
     go_ret
     exact⟨by rw[unhide HR];simp;omega,below_step (unhide HB1) hb2⟩
    ·rw[h2] at HR
     go_wp2
     go_ret
     exact⟨by rw[unhide HR];simp,unhide HB1⟩
end Go.Proofs.YtbfibfmnemnbbaaGreat.E

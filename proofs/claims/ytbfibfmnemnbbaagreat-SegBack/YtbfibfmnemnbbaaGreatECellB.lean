import Derived.Test.YtbfibfmnemnbbaaGreatECellA
set_option linter.unusedSimpArgs false
set_option linter.unusedVariables false
set_option maxHeartbeats 1000000
namespace Go.Proofs.YtbfibfmnemnbbaaGreat.E
open Go.RowKit
theorem hide{p:Prop}(h:p):Hid p:=h
theorem unhide{p:Prop}(h:Hid p):p:=h
def least:Int:=-9223372036854775808
def fitsB(n:Int):Bool:=decide (-9223372036854775808<=n) && decide (n<=9223372036854775807)
def In64(n:Int):Prop:=-9223372036854775808<=n/\n<=9223372036854775807
theorem sum_any(x y:Int)(w:World) :
  Calls Tryz.prog 155 #[.int .i64 x,.int .i64 y] w fun e w'=>e=.returned (.tuple #[.int .i64 (wrap64 (x+y)),.bool (decide (x<wrap64 (x+y)) == decide (0<y))])/\w'=w:=by
 go_enter Tryz.func155,Tryz.ntmps155
 go_wp2
 go_ret2
 exact⟨rfl,rfl⟩
theorem diff_any(x y:Int)(w:World) :
  Calls Tryz.prog 156 #[.int .i64 x,.int .i64 y] w fun e w'=>e=.returned (.tuple #[.int .i64 (wrap64 (x-y)),.bool (decide (wrap64 (x-y)<x) == decide (0<y))])/\w'=w:=by
 go_enter Tryz.func156,Tryz.ntmps156
 go_wp2
 go_ret2
 exact⟨rfl,rfl⟩
theorem rem_zero(x:Int)(w:World) :
  Calls Tryz.prog 159 #[.int .i64 x,.int .i64 0] w fun e w'=>e=.returned (.tuple #[.int .i64 0,.bool false])/\w'=w:=by
 go_enter Tryz.func159,Tryz.ntmps159
 go_wp2
 go_ret2
 exact⟨rfl,rfl⟩
theorem rem_any(x y:Int)(w:World)(hy:¬y=0) :
  Calls Tryz.prog 159 #[.int .i64 x,.int .i64 y] w fun e w'=>e=.returned (.tuple #[.int .i64 (x.tmod y),.bool true])/\w'=w:=by
 have h':(y == 0)=false:=by simpa using hy
 go_enter Tryz.func159,Tryz.ntmps159
 go_wp2
 go_ret2
 exact⟨rfl,rfl⟩
theorem quo_zero(x:Int)(w:World) :
  Calls Tryz.prog 158 #[.int .i64 x,.int .i64 0] w fun e w'=>e=.returned (.tuple #[.int .i64 0,.bool false])/\w'=w:=by
 go_enter Tryz.func158,Tryz.ntmps158
 go_wp2
 go_ret2
 exact⟨rfl,rfl⟩
theorem quo_any(x y:Int)(w:World)(hy:¬y=0)(h2:¬(x=least/\y=-1)) :
  Calls Tryz.prog 158 #[.int .i64 x,.int .i64 y] w fun e w'=>e=.returned (.tuple #[.int .i64 (wrap64 (x.tdiv y)),.bool true])/\w'=w:=by
 have h':(y == 0)=false:=by simpa using hy
 unfold least at h2
 by_cases h3:(x == -9223372036854775808)=true
 ·have h4:(y == -1)=false:=by simp at h3;simp;exact fun h=>h2 ⟨h3,h⟩
  clear h2
  go_enter Tryz.func158,Tryz.ntmps158
  go_wp2
  go_ret2
  exact⟨rfl,rfl⟩
 ·have h3':(x == -9223372036854775808)=false:=by simpa using h3
  clear h2 h3
  go_enter Tryz.func158,Tryz.ntmps158
  go_wp2
  go_ret2
  exact⟨rfl,rfl⟩
theorem quo_least(w:World) :
  Calls Tryz.prog 158 #[.int .i64 least,.int .i64 (-1)] w fun e w'=>e=.returned (.tuple #[.int .i64 0,.bool false])/\w'=w:=by
 unfold least
 go_enter Tryz.func158,Tryz.ntmps158
 go_wp2
 go_ret2
 exact⟨rfl,rfl⟩
theorem mul_zero(y:Int)(w:World) :
  Calls Tryz.prog 157 #[.int .i64 0,.int .i64 y] w fun e w'=>e=.returned (.tuple #[.int .i64 0,.bool true])/\Below w.heap.size w w':=by
 go_enter Tryz.func157,Tryz.ntmps157
 go_wp2
 go_ret2
 exact⟨rfl,Below.refl _ _⟩
theorem mul_least(w:World) :
  Calls Tryz.prog 157 #[.int .i64 (-1),.int .i64 least] w fun e w'=>e=.returned (.tuple #[.int .i64 0,.bool false])/\Below w.heap.size w w':=by
 unfold least
 go_enter Tryz.func157,Tryz.ntmps157
 go_wp2
 go_ret2
 exact⟨rfl,Below.refl _ _⟩
theorem mul_any(x y:Int)(w:World)(hx:¬x=0)(h2:¬(x=-1/\y=least)) :
  Calls Tryz.prog 157 #[.int .i64 x,.int .i64 y] w fun e w'=>e=.returned (.tuple #[.int .i64 (wrap64 (x*y)),.bool (wrap64 ((wrap64 (x*y)).tdiv x) == y)])/\Below w.heap.size w w':=by
 have h':(x == 0)=false:=by simpa using hx
 unfold least at h2
 by_cases h3:(x == -1)=true
 ·have h4:(y == -9223372036854775808)=false:=by simp at h3;simp;exact fun h=>h2 ⟨h3,h⟩
  clear h2
  go_enter Tryz.func157,Tryz.ntmps157
  go_wp2_with fail
  go_quiet (fail)
  go_wp2
  go_ret2
  exact⟨rfl,below_drewN (Below.refl _ _) _⟩
 ·have h3':(x == -1)=false:=by simpa using h3
  clear h2 h3
  go_enter Tryz.func157,Tryz.ntmps157
  go_wp2_with fail
  go_quiet (fail)
  go_wp2
  go_ret2
  exact⟨rfl,below_drewN (Below.refl _ _) _⟩
theorem wrap_fits{n:Int}(h:fitsB n=true):wrap64 n=n:=by
 simp[fitsB] at h;unfold wrap64;omega
theorem sum_fits(x y:Int)(hx:In64 x)(hy:In64 y):(decide (x<wrap64 (x+y)) == decide (0<y))=fitsB (x+y):=by
 unfold In64 at hx hy
 rw[Bool.eq_iff_iff]
 simp only[fitsB,wrap64,beq_iff_eq,Bool.and_eq_true,decide_eq_true_eq,decide_eq_decide]
 omega
theorem diff_fits(x y:Int)(hx:In64 x)(hy:In64 y):(decide (wrap64 (x-y)<x) == decide (0<y))=fitsB (x-y):=by
 unfold In64 at hx hy
 rw[Bool.eq_iff_iff]
 simp only[fitsB,wrap64,beq_iff_eq,Bool.and_eq_true,decide_eq_true_eq,decide_eq_decide]
 omega
theorem mul_fits(x y:Int)(hx:In64 x)(hy:In64 y)(h0:¬x=0)(h1:¬(x=-1/\y=least)):(wrap64 ((wrap64 (x*y)).tdiv x) == y)=fitsB (x*y):=by
 rw[Bool.eq_iff_iff]
 constructor
 ·intro h
  have h:=beq_iff_eq.1 h
  have e1:=Int.mul_tdiv_add_tmod (wrap64 (x*y)) x
  have e2:((wrap64 (x*y)).tmod x).natAbs<x.natAbs:=by
   rw[Int.natAbs_tmod];exact Nat.mod_lt _ (by omega)
  have e4:=Int.natAbs_tdiv_le_natAbs (wrap64 (x*y)) x
  have e5:wrap64 (x*y)=least->x=-1->wrap64 ((wrap64 (x*y)).tdiv x)=least:=by
   intro h1 h2;rw[h1,h2];decide +kernel
  have e6:¬x=-1->2*((wrap64 (x*y)).tdiv x).natAbs<=(wrap64 (x*y)).natAbs∨x=1:=by
   intro hx1
   by_cases hx2:x=1
   ·exact .inr hx2
   ·refine .inl ?_
    rw[Int.natAbs_tdiv]
    have:2<=x.natAbs:=by omega
    have h3:=Nat.div_mul_le_self (wrap64 (x*y)).natAbs x.natAbs
    have h4:=Nat.mul_le_mul_left ((wrap64 (x*y)).natAbs / x.natAbs) this
    show 2*((wrap64 (x*y)).natAbs / x.natAbs)<=_
    omega
  have e7:x=1->(wrap64 (x*y)).tdiv x=wrap64 (x*y):=by intro h;rw[h];simp
  have hm:In64 (wrap64 (x*y)):=by unfold In64 wrap64;omega
  have e8:wrap64 ((wrap64 (x*y)).tdiv x)=(wrap64 (x*y)).tdiv x:=by
   unfold In64 at hm hx hy
   by_cases hx1:x=-1
   ·have:¬wrap64 (x*y)=least:=fun hh=>h1 ⟨hx1,by rw[<-h];exact e5 hh hx1⟩
    unfold least at this
    generalize wrap64 (x*y)=m at *
    generalize m.tdiv x=q at *
    unfold wrap64
    omega
   ·rcases e6 hx1 with e|e
    ·generalize wrap64 (x*y)=m at *
     generalize m.tdiv x=q at *
     unfold wrap64
     omega
    ·rw[e7 e]
     generalize wrap64 (x*y)=m at *
     unfold wrap64
     omega
  rw[h] at e8
  rw[<-e8] at e1
  have hp:∃k,wrap64 (x*y)=x*y+18446744073709551616*k:=by
   unfold wrap64
   exact⟨-((x*y+9223372036854775808) / 18446744073709551616),by omega⟩
  obtain⟨k,hk⟩:=hp
  unfold In64 at hm hx hy
  generalize (wrap64 (x*y)).tmod x=r at *
  generalize wrap64 (x*y)=m at *
  simp only[fitsB,Bool.and_eq_true,decide_eq_true_eq]
  omega
 ·intro h
  rw[wrap_fits h,Int.mul_tdiv_cancel_left _ h0]
  unfold In64 at hy
  rw[wrap_fits (by simp[fitsB];omega)]
  simp
def reck(op x y:Int):Option Int:=
 if op=7 then (if fitsB (x+y) then some (x+y) else none)
 else if op=8 then (if fitsB (x-y) then some (x-y) else none)
 else if op=9 then (if fitsB (x*y) then some (x*y) else none)
 else if op=10 then (if y=0 then none else if fitsB (x.tdiv y) then some (x.tdiv y) else none)
 else if op=11 then (if y=0 then none else some (x.tmod y))
 else none
def optV:Option Int->Val
 | some n=>.num n
 | none=>.null
def reckV(op:Int)(a b:Val):Val:=if a.k == 1 && b.k == 1 then optV (reck op a.n b.n) else .null
theorem tdiv_fits(x y:Int)(hx:In64 x)(hy:¬y=0):fitsB (x.tdiv y)=!(decide (x=least) && decide (y=-1)):=by
 have e4:=Int.natAbs_tdiv_le_natAbs x y
 unfold In64 at hx
 rw[Bool.eq_iff_iff]
 simp only[fitsB,Bool.and_eq_true,decide_eq_true_eq,Bool.not_eq_true',Bool.and_eq_false_iff,decide_eq_false_iff_not]
 by_cases h:x=least
 ·subst h
  by_cases h2:y=-1
  ·subst h2;decide +kernel
  ·by_cases h3:y=1
   ·subst h3;decide +kernel
   ·have e6:2*((least).tdiv y).natAbs<=least.natAbs:=by
     rw[Int.natAbs_tdiv]
     have:2<=y.natAbs:=by omega
     have h3:=Nat.div_mul_le_self least.natAbs y.natAbs
     have h4:=Nat.mul_le_mul_left (least.natAbs / y.natAbs) this
     show 2*(least.natAbs / y.natAbs)<=_
     omega
    unfold least at *
    omega
 ·unfold least at *
  omega
def Got(o:Option Int)(e:Ending):Prop:=∃n,e=.returned (.tuple #[.int .i64 n,.bool o.isSome])/\∀m,o=some m->n=m
theorem got_of{o:Option Int}{n:Int}{b:Bool}(hb:o.isSome=b)(h:∀m,o=some m->n=m):Got o (.returned (.tuple #[.int .i64 n,.bool b])):=⟨n,by rw[hb],h⟩
theorem got_add(x y:Int)(hx:In64 x)(hy:In64 y):Got (reck 7 x y) (.returned (.tuple #[.int .i64 (wrap64 (x+y)),.bool (decide (x<wrap64 (x+y)) == decide (0<y))])):=by
 rw[sum_fits x y hx hy]
 by_cases h:fitsB (x+y)=true
 ·exact got_of (by simp[reck,h]) (by intro m hm;simp[reck,h] at hm;rw[wrap_fits h,hm])
 ·exact got_of (by simp[reck,h]) (by intro m hm;simp[reck,h] at hm)
theorem got_sub(x y:Int)(hx:In64 x)(hy:In64 y):Got (reck 8 x y) (.returned (.tuple #[.int .i64 (wrap64 (x-y)),.bool (decide (wrap64 (x-y)<x) == decide (0<y))])):=by
 rw[diff_fits x y hx hy]
 by_cases h:fitsB (x-y)=true
 ·exact got_of (by simp[reck,h]) (by intro m hm;simp[reck,h] at hm;rw[wrap_fits h,hm])
 ·exact got_of (by simp[reck,h]) (by intro m hm;simp[reck,h] at hm)
theorem prod_any(x y:Int)(hx:In64 x)(hy:In64 y)(w:World) :
  Calls Tryz.prog 157 #[.int .i64 x,.int .i64 y] w fun e w'=>Got (reck 9 x y) e/\Below w.heap.size w w':=by
 by_cases h0:x=0
 ·subst h0
  exact(mul_zero y w).mono fun e w' ⟨he,hb⟩=>⟨by rw[he];exact got_of (by simp[reck,fitsB]) (by intro m hm;simp[reck,fitsB] at hm;exact hm),hb⟩
 ·by_cases h1:x=-1/\y=least
  ·obtain⟨rfl,rfl⟩:=h1
   exact(mul_least w).mono fun e w' ⟨he,hb⟩=>⟨by rw[he];exact got_of (by simp[reck,fitsB,least]) (by intro m hm;simp[reck,fitsB,least] at hm),hb⟩
  ·refine(mul_any x y w h0 h1).mono fun e w' ⟨he,hb⟩=>⟨?_,hb⟩
   rw[he,mul_fits x y hx hy h0 h1]
   by_cases h:fitsB (x*y)=true
   ·exact got_of (by simp[reck,h]) (by intro m hm;simp[reck,h] at hm;rw[wrap_fits h,hm])
   ·exact got_of (by simp[reck,h]) (by intro m hm;simp[reck,h] at hm)
theorem div_any(x y:Int)(hx:In64 x)(w:World) :
  Calls Tryz.prog 158 #[.int .i64 x,.int .i64 y] w fun e w'=>Got (reck 10 x y) e/\Below w.heap.size w w':=by
 by_cases h0:y=0
 ·subst h0
  exact(quo_zero x w).mono fun e w' ⟨he,hb⟩=>⟨by rw[he];exact got_of (by simp[reck]) (by intro m hm;simp[reck] at hm),by rw[hb];exact Below.refl _ _⟩
 ·by_cases h1:x=least/\y=-1
  ·obtain⟨rfl,rfl⟩:=h1
   have hf:fitsB (least.tdiv (-1))=false:=by decide +kernel
   exact(quo_least w).mono fun e w' ⟨he,hb⟩=>⟨by rw[he];exact got_of (by simp only[reck,hf];rfl) (by intro m hm;simp only[reck,hf] at hm;simp at hm),by rw[hb];exact Below.refl _ _⟩
  ·have hf:fitsB (x.tdiv y)=true:=by rw[tdiv_fits x y hx h0];simp;exact Classical.not_and_iff_not_or_not.1 h1
   refine(quo_any x y w h0 h1).mono fun e w' ⟨he,hb⟩=>⟨?_,by rw[hb];exact Below.refl _ _⟩
   rw[he]
   exact got_of (by simp[reck,hf,h0]) (by intro m hm;simp[reck,hf,h0] at hm;rw[wrap_fits hf,hm])
theorem mod_any(x y:Int)(w:World) :
  Calls Tryz.prog 159 #[.int .i64 x,.int .i64 y] w fun e w'=>Got (reck 11 x y) e/\Below w.heap.size w w':=by
 by_cases h0:y=0
 ·subst h0
  exact(rem_zero x w).mono fun e w' ⟨he,hb⟩=>⟨by rw[he];exact got_of (by simp[reck]) (by intro m hm;simp[reck] at hm),by rw[hb];exact Below.refl _ _⟩
 ·refine(rem_any x y w h0).mono fun e w' ⟨he,hb⟩=>⟨?_,by rw[hb];exact Below.refl _ _⟩
  rw[he]
  exact got_of (by simp[reck,h0]) (by intro m hm;simp[reck,h0] at hm;exact hm)
theorem result_add(x y:Int)(hx:In64 x)(hy:In64 y)(w:World) :
  Calls Tryz.prog 136 #[.int .i64 7,.int .i64 x,.int .i64 y] w fun e w'=>Got (reck 7 x y) e/\Below w.heap.size w w':=by
 have HG:=hide (got_add x y hx hy)
 clear hx hy
 go_enter Tryz.func136,Tryz.ntmps136
 go_wp2_with (go_at_call 155;refine(sum_any _ _ _).mono ?_;rintro e w' ⟨rfl,rfl⟩)
 go_ret2
 exact⟨unhide HG,Below.refl _ _⟩
theorem result_sub(x y:Int)(hx:In64 x)(hy:In64 y)(w:World) :
  Calls Tryz.prog 136 #[.int .i64 8,.int .i64 x,.int .i64 y] w fun e w'=>Got (reck 8 x y) e/\Below w.heap.size w w':=by
 have HG:=hide (got_sub x y hx hy)
 clear hx hy
 go_enter Tryz.func136,Tryz.ntmps136
 go_wp2_with (go_at_call 156;refine(diff_any _ _ _).mono ?_;rintro e w' ⟨rfl,rfl⟩)
 go_ret2
 exact⟨unhide HG,Below.refl _ _⟩
theorem result_mul(x y:Int)(hx:In64 x)(hy:In64 y)(w:World) :
  Calls Tryz.prog 136 #[.int .i64 9,.int .i64 x,.int .i64 y] w fun e w'=>Got (reck 9 x y) e/\Below w.heap.size w w':=by
 have HG:=hide (prod_any x y hx hy)
 clear hx hy
 go_enter Tryz.func136,Tryz.ntmps136
 go_wp2_with (go_at_call 157;refine(unhide HG _).mono ?_;rintro e w' ⟨⟨n,rfl,hn⟩,hb⟩)
 go_ret2
 exact⟨⟨n,rfl,hn⟩,hb⟩
theorem result_div(x y:Int)(hx:In64 x)(w:World) :
  Calls Tryz.prog 136 #[.int .i64 10,.int .i64 x,.int .i64 y] w fun e w'=>Got (reck 10 x y) e/\Below w.heap.size w w':=by
 have HG:=hide (div_any x y hx)
 clear hx
 go_enter Tryz.func136,Tryz.ntmps136
 go_wp2_with (go_at_call 158;refine(unhide HG _).mono ?_;rintro e w' ⟨⟨n,rfl,hn⟩,hb⟩)
 go_ret2
 exact⟨⟨n,rfl,hn⟩,hb⟩
theorem result_mod(x y:Int)(w:World) :
  Calls Tryz.prog 136 #[.int .i64 11,.int .i64 x,.int .i64 y] w fun e w'=>Got (reck 11 x y) e/\Below w.heap.size w w':=by
 go_enter Tryz.func136,Tryz.ntmps136
 go_wp2_with (go_at_call 159;refine(mod_any _ _ _).mono ?_;rintro e w' ⟨⟨n,rfl,hn⟩,hb⟩)
 go_ret2
 exact⟨⟨n,rfl,hn⟩,hb⟩
theorem result_other(op x y:Int)(w:World)(h7:¬op=7)(h8:¬op=8)(h9:¬op=9)(h10:¬op=10)(h11:¬op=11) :
  Calls Tryz.prog 136 #[.int .i64 op,.int .i64 x,.int .i64 y] w fun e w'=>Got (reck op x y) e/\Below w.heap.size w w':=by
 have HG:=hide (show reck op x y=none by simp[reck,h7,h8,h9,h10,h11])
 have k7:(op == 7)=false:=by simpa using h7
 have k8:(op == 8)=false:=by simpa using h8
 have k9:(op == 9)=false:=by simpa using h9
 have k10:(op == 10)=false:=by simpa using h10
 have k11:(op == 11)=false:=by simpa using h11
 clear h7 h8 h9 h10 h11
 go_enter Tryz.func136,Tryz.ntmps136
 go_wp2
 go_ret2
 exact⟨by rw[unhide HG];exact got_of rfl (by intro m hm;cases hm),Below.refl _ _⟩
theorem result_any(op x y:Int)(hx:In64 x)(hy:In64 y)(w:World) :
  Calls Tryz.prog 136 #[.int .i64 op,.int .i64 x,.int .i64 y] w fun e w'=>Got (reck op x y) e/\Below w.heap.size w w':=by
 by_cases h7:op=7
 ·subst h7;exact result_add x y hx hy w
 by_cases h8:op=8
 ·subst h8;exact result_sub x y hx hy w
 by_cases h9:op=9
 ·subst h9;exact result_mul x y hx hy w
 by_cases h10:op=10
 ·subst h10;exact result_div x y hx w
 by_cases h11:op=11
 ·subst h11;exact result_mod x y w
 exact result_other op x y w h7 h8 h9 h10 h11
theorem reckon_any(op:Int)(a b:Val)(ha:In64 a.n)(hb:In64 b.n)(w:World) :
  Calls Tryz.prog 109 #[.int .i64 op,a.v,b.v] w fun e w'=>e=.returned (reckV op a b).v/\Below w.heap.size w w':=by
 have HR:=hide (result_any op a.n b.n ha hb)
 clear ha hb
 rw[a.open_,b.open_]
 rcases Bool.eq_false_or_eq_true (a.k == 1) with ka|ka<;>rcases Bool.eq_false_or_eq_true (b.k == 1) with kb|kb
 ·have ka':(a.k != 1)=false:=by simpa using ka
  have kb':(b.k != 1)=false:=by simpa using kb
  have hv:reckV op a b=optV (reck op a.n b.n):=by simp[reckV,ka,kb]
  rw[hv]
  clear hv
  cases hr:reck op a.n b.n with
  | none=>
   rw[hr] at HR
   clear hr
   go_enter Tryz.func109,Tryz.ntmps109
   go_wp2_with (go_at_call 136;refine(unhide HR _).mono ?_;rintro e w1 ⟨⟨n,rfl,hn⟩,hb1⟩;obtain⟨hc1,hf1⟩:=bcell hb1;simp only[Option.isSome])
   refine bodyPost_ret (v:=Val.null.v) (by simp[results,Tryz.results109,go_sem,Val.v,Val.null,hc1,hf1]) rfl ⟨rfl,?_⟩
   (repeat (first|exact Below.refl _ _|refine Below.alloc ?_ (by simp<;>omega) _|refine Below.setCell ?_ (by simp<;>omega) _|refine Below.trans ?_ (Below.mono (by assumption) (by first|omega | (simp;omega)))))
  | some m=>
   rw[hr] at HR
   clear hr
   go_enter Tryz.func109,Tryz.ntmps109
   go_wp2_with (first
    | (go_at_call 136;refine(unhide HR _).mono ?_;rintro e w1 ⟨⟨n,rfl,hn⟩,hb1⟩;obtain⟨hc1,hf1⟩:=bcell hb1;obtain rfl:=hn m rfl;simp only[Option.isSome];have hz1:w.heap.size+1+1<w1.heap.size:=by have:=hb1.size;(try simp at this);omega)
    | (go_at_call 47;refine(number_any _ _).mono ?_;rintro e w2 ⟨rfl,hb2⟩;obtain⟨hc2,hf2⟩:=bcell hb2;rw[Val.open_]))
   refine bodyPost_ret (v:=(Val.num n).v) (by simp[results,Tryz.results109,go_sem,Val.v,Val.num,hc1,hf1,hc2,hf2,hz1]) rfl ⟨rfl,?_⟩
   (repeat (first|exact Below.refl _ _|refine Below.alloc ?_ (by simp<;>omega) _|refine Below.setCell ?_ (by simp<;>omega) _|refine Below.trans ?_ (Below.mono (by assumption) (by first|omega | (simp;omega)))))
 all_goals
  have hv:reckV op a b=Val.null:=by simp[reckV,ka,kb]
  rw[hv]
  clear hv HR
  try (have ka':(a.k != 1)=false:=by simpa using ka)
  try (have ka':(a.k != 1)=true:=by simpa using ka)
  try (have kb':(b.k != 1)=false:=by simpa using kb)
  try (have kb':(b.k != 1)=true:=by simpa using kb)
  go_enter Tryz.func109,Tryz.ntmps109
  go_wp2
  refine bodyPost_ret (v:=Val.null.v) (by simp[results,Tryz.results109,go_sem,Val.v,Val.null]) rfl ⟨rfl,?_⟩
  (repeat (first|exact Below.refl _ _|refine Below.alloc ?_ (by simp<;>omega) _|refine Below.setCell ?_ (by simp<;>omega) _))
end Go.Proofs.YtbfibfmnemnbbaaGreat.E

import Derived.Test.YtklgoolblpmmlaaGreatCellA
import Derived.Deep.DeepCutAuto
import Derived.Deep.DrawnRows
import Derived.Lib.Bytealg
set_option linter.all false
set_option maxHeartbeats 4000000
set_option maxRecDepth 100000
namespace Go.Proofs.YtklgoolblpmmlaaGreat
open Go.RowKit Go.Sort Go.Proofs.Tryz
def bk(x:aH):aH:=if x.k == 1 then .num x.n else if x.k == 2 then .str x.s else .null
theorem qS(a:ByteArray)(b:World):Calls prog 93 #[.string a] b λc d=>c=.returned (aH.str a).v/\Bw b d:=by unfold aH.v aH.str;go_enter func93,ntmps93;go_wp2;exact bs (v:=.agg #[.int .i64 2,.int .i64 0,.string a]) (by simp[results,results93,go_sem]) rfl ⟨rfl,VS.alloc bi _⟩
theorem ec(x:aH)(i:World):Calls prog 47 #[x.v] i λc j=>c=.returned (bk x).v/\Bw i j:=by
 rw[x.open_];rcases dp (x.k == 1) with b|b;·(have a:bk x=.num x.n:=by simp[bk,b]);rw[a];clear a;go_enter func47,ntmps47;go_wp2_with (go_at_call 92;refine(jl _ _).mono ?_;rintro c k ⟨rfl,d⟩;obtain⟨e,f⟩:=cO d;rw[aH.open_]);refine bs (v:=(aH.num x.n).v) (by simp[results,results47,go_sem,aH.v,aH.num,e,f]) rfl ⟨rfl,?_⟩;(repeat (first|exact VS|refine Below.alloc ?_ (by simp<;>omega) _|refine Below.setCell ?_ (by simp<;>omega) _|refine Below.trans ?_ (Below.mono (by assumption) (by first|omega | (simp;omega)))))
 .rcases dp (x.k == 2) with g|g;(·(have a:bk x=.str x.s:=by simp[bk,b,g]);rw[a];clear a;go_enter func47,ntmps47;go_wp2_with (go_at_call 93;refine(qS _ _).mono ?_;rintro c k ⟨rfl,d⟩;obtain⟨e,f⟩:=cO d;rw[aH.open_]);refine bs (v:=(aH.str x.s).v) (by simp[results,results47,go_sem,aH.v,aH.str,e,f]) rfl ⟨rfl,?_⟩;(repeat (first|exact VS|refine Below.alloc ?_ (by simp<;>omega) _|refine Below.setCell ?_ (by simp<;>omega) _|refine Below.trans ?_ (Below.mono (by assumption) (by first|omega | (simp;omega))))));·(have a:bk x=.null:=by simp[bk,b,g]);rw[a];clear a;go_enter func47,ntmps47;go_wp2;refine bs (v:=aH.null.v) (by simp[results,results47,go_sem,aH.v,aH.null]) rfl ⟨rfl,?_⟩;(repeat (first|exact VS|refine Below.alloc ?_ (by simp<;>omega) _|refine Below.setCell ?_ (by simp<;>omega) _))
def dI(x a:Int):Int:=if x<a then -1 else if a<x then 1 else 0
theorem nn(x b:Int)(a:World):Calls prog 49 #[.int .i64 x,.int .i64 b] a λc d=>c=.returned (.int .i64 (dI x b))/\d=a:=by unfold dI;go_enter func49,ntmps49;go_wp2;all_goals (go_ret;exact⟨rfl,rfl⟩)
theorem kg(x b:Int)(a:World):Calls prog 50 #[.int .i64 x,.int .i64 b] a λc d=>c=.returned (.int .i64 (dI x b))/\d=a:=by unfold dI;go_enter func50,ntmps50;go_wp2;all_goals (go_ret;exact⟨rfl,rfl⟩)
def jt(x a:ByteArray):Int:=Lib.compareBytes x.data.toList a.data.toList
theorem Du(x b:ByteArray)(a:World):(callFunc 149 #[.string x,.string b]).run prog a=.ok (.value (.int .i64 (jt x b))) a:=by rw[run_callFunc_extern func149 (by kernel_rfl) (by kernel_rfl) (by kernel_rfl) (e:=Extern.BytealgCompare.compare) (by kernel_rfl),Lib.run_compareString];rfl
theorem nk(x a:ByteArray)(b:World):Calls prog 51 #[.string x,.string a] b λc d=>c=.returned (.int .i64 (jt x a))/\d=b:=by have e:=Du x a;go_enter func51,ntmps51;go_wp2;go_ret;exact⟨rfl,rfl⟩
def mv(x a b:Int):Int:=if x≠0 then x else if a≠0 then a else b
theorem uv(n:Nat)(x g i:Int)(l:World)(r:l.cell? ⟨n,0,none⟩=some (.int .i64 x))(s:l.cell? ⟨n,1,none⟩=some (.int .i64 g))(t:l.cell? ⟨n,2,none⟩=some (.int .i64 i)):Calls prog 48 #[.slice (some ⟨n,0,none⟩) 3 3] l λp q=>p=.returned (.int .i64 (mv x g i))/\q=l:=by
 go_enter func48,ntmps48;go_wp2;go_loop[8] (λo=>∃c:Nat,c<=3/\o=.int .i64 c/\(1<=c->x=0)/\(2<=c->g=0)/\(3<=c->i=0)) (λo=>3-(intOf o).toNat);case atStart=>exact⟨0,bt,rfl,by omega,by omega,by omega⟩
 case round=>obtain⟨c,u,rfl,e,f,k⟩:=hrel;rcases(show c=0∨c=1∨c=2∨c=3 by omega) with rfl|rfl|rfl|rfl;(.clear e f k;by_cases a:x=0;(·(have j:(x != 0)=false:=by simpa using a);have b:=H a;clear a;go_wp2;go_round;(case rel=>exact⟨1,by omega,rfl,λ_=>U b,by omega,by omega⟩);case measure=>simp[intOf]);·(have j:(x != 0)=true:=by simpa using a);have b:=H a;clear a;go_wp2;go_ret;exact⟨by simp[mv,U b],rfl⟩);(.have b:=H (e (by omega));clear e f k;by_cases a:g=0;(·(have j:(g != 0)=false:=by simpa using a);have d:=H a;clear a;go_wp2;go_round;(case rel=>exact⟨2,by omega,rfl,λ_=>U b,λ_=>U d,by omega⟩);case measure=>simp[intOf]);·(have j:(g != 0)=true:=by simpa using a);have d:=H a;clear a;go_wp2;go_ret;exact⟨by simp[mv,U b,U d],rfl⟩);(.have b:=H (e (by omega));have d:=H (f (by omega));clear e f k;by_cases a:i=0;(·(have j:(i != 0)=false:=by simpa using a);have m:=H a;clear a;go_wp2;go_round;(case rel=>exact⟨3,by omega,rfl,λ_=>U b,λ_=>U d,λ_=>U m⟩);case measure=>simp[intOf]);·(have j:(i != 0)=true:=by simpa using a);have m:=H a;clear a;go_wp2;go_ret;exact⟨by simp[mv,U b,U d],rfl⟩);.have b:=H (e (by omega));have d:=H (f (by omega));have m:=H (k (by omega));clear e f k;go_wp2;go_ret;exact⟨by simp[mv,U b,U d,U m],rfl⟩
attribute [local go_sem ↓] Go.wp_at_zero Go.wp_at_succ
section
variable{W X w:World}{m n:Nat}{c f:aH}{I J:Int}{v:Value}{a:Option Addr}
theorem ac(h:Bw w W)(a:Bw W X):Bw w X:=h.trans (a.mono h.size)
theorem am(h:Bw w W)(a:Obj):Bw w (W.alloc a):=h.alloc h.size a
def eB(b:World)(a:Nat)(x:aH):Prop:=b.cell? ⟨a,0,none⟩=some (.int .i64 x.k)/\b.cell? ⟨a,1,none⟩=some (.int .i64 x.n)/\b.cell? ⟨a,2,none⟩=some (.string x.s)
theorem eB.aa{x:aH}(h:eB w n x)(a:Bw w W):eB W n x:=
 ⟨cell_later a h.1,cell_later a h.2.1,cell_later a h.2.2⟩
def Vx(b:World)(a:Nat):Prop:=b.frozen? ⟨a,0,none⟩=false/\b.frozen? ⟨a,1,none⟩=false/\b.frozen? ⟨a,2,none⟩=false
theorem Vx.aa(h:Vx w n)(b:n<w.heap.size)(c:Bw w W):Vx W n:=by obtain⟨d,a⟩:=cO c;unfold Vx;rw[a _ _ b,a _ _ b,a _ _ b];exact h
def fy(c:World)(a b:aH):World:=(c.alloc (.cells #[.int .i64 a.k,.int .i64 a.n,.string a.s] 43)).alloc (.cells #[.int .i64 b.k,.int .i64 b.n,.string b.s] 43)
theorem gM(a:World)(b c:aH):(fy a b c).heap.size=a.heap.size+1+1:=by simp[fy]
theorem VF(h:Below (fy w c f).heap.size (fy w c f) W):eB W w.heap.size c/\eB W (w.heap.size+1) f/\Vx W w.heap.size/\Vx W (w.heap.size+1)/\w.heap.size+1<W.heap.size:=by have d:=h.size;rw[gM] at d;obtain⟨a,b⟩:=cO h;refine⟨⟨?_,?_,?_⟩,⟨?_,?_,?_⟩,⟨?_,?_,?_⟩,⟨?_,?_,?_⟩,by omega⟩;all_goals first | (rw[a _ _ (by rw[gM];omega)];simp[fy,go_sem];done) | (rw[b _ _ (by rw[gM];omega)];simp[fy,go_sem];done)
theorem sl(h:Below (fy w c f).heap.size (fy w c f) W):Bw w W:=
 ((VS.alloc bi _).alloc (by simp) _).trans (h.mono (by rw[gM];omega))
theorem nv(c:World)(a b:aH):Below (fy c a b).heap.size (fy c a b) (fy c a b).drew:=(VS).drew
theorem uq(a b:aH)(h:Below (fy w c f).heap.size (fy w c f) W):eB ((((((W.setCell ⟨w.heap.size,0,none⟩ (.int .i64 a.k)).setCell ⟨w.heap.size,1,none⟩ (.int .i64 a.n)).setCell ⟨w.heap.size,2,none⟩ (.string a.s)).setCell ⟨w.heap.size+1,0,none⟩ (.int .i64 b.k)).setCell ⟨w.heap.size+1,1,none⟩ (.int .i64 b.n)).setCell ⟨w.heap.size+1,2,none⟩ (.string b.s)) w.heap.size a/\eB ((((((W.setCell ⟨w.heap.size,0,none⟩ (.int .i64 a.k)).setCell ⟨w.heap.size,1,none⟩ (.int .i64 a.n)).setCell ⟨w.heap.size,2,none⟩ (.string a.s)).setCell ⟨w.heap.size+1,0,none⟩ (.int .i64 b.k)).setCell ⟨w.heap.size+1,1,none⟩ (.int .i64 b.n)).setCell ⟨w.heap.size+1,2,none⟩ (.string b.s)) (w.heap.size+1) b/\Bw w ((((((W.setCell ⟨w.heap.size,0,none⟩ (.int .i64 a.k)).setCell ⟨w.heap.size,1,none⟩ (.int .i64 a.n)).setCell ⟨w.heap.size,2,none⟩ (.string a.s)).setCell ⟨w.heap.size+1,0,none⟩ (.int .i64 b.k)).setCell ⟨w.heap.size+1,1,none⟩ (.int .i64 b.n)).setCell ⟨w.heap.size+1,2,none⟩ (.string b.s)):=by obtain⟨⟨d,e,g⟩,⟨i,j,k⟩,⟨l,m,n⟩,⟨g0,o,p⟩,q⟩:=VF h;refine⟨⟨by simp[go_sem, *],by simp[go_sem, *],by simp[go_sem, *]⟩,⟨by simp[go_sem, *],by simp[go_sem, *],by simp[go_sem, *]⟩,?_⟩;exact((((((sl h).setCell (by simp) _).setCell (by simp) _).setCell (by simp) _).setCell (by simp) _).setCell (by simp) _).setCell (by simp) _
def dk(x a:aH):Int:=mv (dI (bk x).k (bk a).k) (dI (bk x).n (bk a).n) (jt (bk x).s (bk a).s)
theorem kI(b c:aH)(a:World):Calls prog 30 #[b.v,c.v] a λg f=>g=.returned (.int .i64 (dk b c))/\Bw a f:=by
 rw[b.open_,c.open_];have m:=H (ec b);have n:=H (ec c);unfold dk;generalize bk b=d at *;generalize bk c=e at *;go_enter func30,ntmps30;go_upto_region 1 with fail;go_cut[] (λj=>eB j a.heap.size d/\eB j (a.heap.size+1) e/\Bw a j)
 case first=>
  go_region_with (first
   | (go_at_call_of 47 (Value.agg #[Value.int IntKind.i64 b.k,Value.int IntKind.i64 b.n,Value.string b.s]);refine(U m _).mono ?_;rintro g i ⟨rfl,z⟩;rw[aH.open_];have k:=ac (nv a b c) z;obtain⟨⟨o,p,q⟩,⟨r,s,t⟩,⟨u,v,w⟩,⟨g0,x,y⟩,C⟩:=VF k)
   | (go_at_call_of 47 (Value.agg #[Value.int IntKind.i64 c.k,Value.int IntKind.i64 c.n,Value.string c.s]);refine(U n _).mono ?_;rintro g D ⟨rfl,A⟩;rw[aH.open_];have l:=ac k A;obtain⟨⟨o,p,q⟩,⟨r,s,t⟩,⟨u,v,w⟩,⟨g0,x,y⟩,C⟩:=VF l))
  all_goals go_wp2_with fail;go_meet;exact uq d e l
 case rest=>
  obtain⟨⟨o,p,q⟩,⟨r,s,t⟩,B⟩:=hcut;clear m n;rename World=>wa;go_upto_region 2 with fail
  go_region_held3 (λf=>f.cell? ⟨a.heap.size,0,none⟩=some (.int .i64 d.k)/\f.cell? ⟨a.heap.size,1,none⟩=some (.int .i64 d.n)/\f.cell? ⟨a.heap.size,2,none⟩=some (.string d.s)/\f.cell? ⟨a.heap.size+1,0,none⟩=some (.int .i64 e.k)/\f.cell? ⟨a.heap.size+1,1,none⟩=some (.int .i64 e.n)/\f.cell? ⟨a.heap.size+1,2,none⟩=some (.string e.s))
   (go_keep)
   (first
    | (go_at_call 49;refine(nn _ _ _).mono ?_;rintro g i ⟨rfl,rfl⟩)
    | (go_at_call 50;refine(kg _ _ _).mono ?_;rintro g i ⟨rfl,rfl⟩)
    | (go_at_call 51;refine(nk _ _ _).mono ?_;rintro g i ⟨rfl,rfl⟩)
    | (go_at_call 48;refine(uv _ (dI d.k e.k) (dI d.n e.n) (jt d.s e.s) _ ?_ ?_ ?_).mono ?_;(simp[go_sem]);(simp[go_sem]);(simp[go_sem]);rintro g i ⟨rfl,rfl⟩))
  go_wp2;go_ret;exact⟨rfl,(am B _).drew⟩
theorem rB:∀(c d:List UInt8),(if c == d then 0 else if Op.bytesLess c d then -1 else 1:Int)=Lib.compareBytes c d
 | [],[]=>by simp[Lib.compareBytes]
 | [],b::d=>by simp[Lib.compareBytes,Op.bytesLess]
 | a::c,[]=>by simp[Lib.compareBytes,Op.bytesLess]
 | a::c,b::d=>by rw[Lib.compareBytes];by_cases h:a<b;(·(have g:a≠b:=λe=>by subst e;exact absurd h (UInt8.lt_irrefl a));simp[h,Op.bytesLess,g]);.by_cases f:b<a;(·(have g:a≠b:=λe=>by subst e;exact absurd f (UInt8.lt_irrefl a));simp[h,f,Op.bytesLess,g]);.have e:a=b:=UInt8.le_antisymm (UInt8.not_lt.1 f) (UInt8.not_lt.1 h);subst e;rw[<-rB c d];simp[h,Op.bytesLess]
def BK(x a:Bool):Int:=if a then 0 else if x then -1 else 1
theorem ym(a:Int):mv 0 a 0=a:=by unfold mv;by_cases h:a=0<;>simp[h]
theorem vN(a:Int):mv 0 0 a=a:=by unfold mv;simp
theorem sc:jt ⟨#[]⟩ ⟨#[]⟩=0:=rfl
theorem o6(x:Int):dI x x=0:=by simp[dI]
def ie(a b:aH):aH:=if a.k == 2 && b.k == 2 && decide (a.s.size+b.s.size<=1000) then .str (a.s++b.s) else .null
theorem Bz(a b:aH)(f:World)(p:a.s.size<=140737488355328)(q:b.s.size<=140737488355328):Calls prog 162 #[a.v,b.v] f λc o=>c=.returned (ie a b).v/\Bw f o:=by
 rw[a.open_,b.open_];rcases dp (a.k == 2) with d|d;·(have m:(a.k != 2)=false:=by simpa using d);rcases dp (b.k == 2) with e|e;(·(have n:(b.k != 2)=false:=by simpa using e);by_cases g:a.s.size+b.s.size<=1000;(·(have c:ie a b=.str (a.s++b.s):=by simp[ie,d,e,g]);rw[c];(have l:¬(1000:Int)<(a.s.size:Int)+(b.s.size:Int):=by omega);go_enter func162,ntmps162;go_wp2_with (go_at_call 93;refine(qS _ _).mono ?_;rintro c r ⟨rfl,i⟩;obtain⟨j,k⟩:=cO i;rw[aH.open_];simp only[aH.str]);refine bs (v:=(aH.str (a.s++b.s)).v) (by simp[results,results162,go_sem,aH.v,aH.str,j,k]) rfl ⟨rfl,?_⟩;(repeat (first|exact VS|refine Below.alloc ?_ (by simp<;>omega) _|refine Below.drew ?_|refine Below.setCell ?_ (by simp<;>omega) _|refine Below.trans ?_ (Below.mono (by assumption) (by first|omega | (simp;omega) | (simp;done))))));·(have c:ie a b=.null:=by simp[ie,d,e,g]);rw[c];(have l:(1000:Int)<(a.s.size:Int)+(b.s.size:Int):=by omega);go_enter func162,ntmps162;go_wp2;refine bs (v:=aH.null.v) (by simp[results,results162,go_sem,aH.v,aH.null]) rfl ⟨rfl,?_⟩;(repeat (first|exact VS|refine Below.alloc ?_ (by simp<;>omega) _|refine Below.drew ?_|refine Below.setCell ?_ (by simp<;>omega) _|refine Below.trans ?_ (Below.mono (by assumption) (by first|omega | (simp;omega) | (simp;done))))));·(have n:(b.k != 2)=true:=by simpa using e);(have c:ie a b=.null:=by simp[ie,d,e]);rw[c];go_enter func162,ntmps162;go_wp2;refine bs (v:=aH.null.v) (by simp[results,results162,go_sem,aH.v,aH.null]) rfl ⟨rfl,?_⟩;(repeat (first|exact VS|refine Below.alloc ?_ (by simp<;>omega) _|refine Below.drew ?_|refine Below.setCell ?_ (by simp<;>omega) _|refine Below.trans ?_ (Below.mono (by assumption) (by first|omega | (simp;omega) | (simp;done)))))
 ·(have m:(a.k != 2)=true:=by simpa using d);(have c:ie a b=.null:=by simp[ie,d]);rw[c];go_enter func162,ntmps162;go_wp2;refine bs (v:=aH.null.v) (by simp[results,results162,go_sem,aH.v,aH.null]) rfl ⟨rfl,?_⟩;(repeat (first|exact VS|refine Below.alloc ?_ (by simp<;>omega) _|refine Below.drew ?_|refine Below.setCell ?_ (by simp<;>omega) _|refine Below.trans ?_ (Below.mono (by assumption) (by first|omega | (simp;omega) | (simp;done)))))
def hZ(b:World)(a:Nat):Prop:=b.cell? ⟨a,0,none⟩=some (.int .i64 0)/\b.cell? ⟨a,1,none⟩=some (.int .i64 0)/\b.cell? ⟨a,2,none⟩=some (.string ⟨#[]⟩)/\b.frozen? ⟨a,0,none⟩=false/\b.frozen? ⟨a,1,none⟩=false/\b.frozen? ⟨a,2,none⟩=false
theorem hZ.aa{w1:World}(h:hZ w n)(k:Bw w w1):hZ w1 n:=by obtain⟨d,i,j,e,f,g⟩:=h;obtain⟨b,c⟩:=cO k;have a:n<w.heap.size:=ck w _ d;unfold hZ;rw[b _ _ a,b _ _ a,b _ _ a,c _ _ a,c _ _ a,c _ _ a];exact⟨d,i,j,e,f,g⟩
abbrev Da:Obj:=.cells #[.int .i64 0,.int .i64 0,.string ⟨#[]⟩] 43
def gN(c:World)(a b:aH):World:=(fy c a b).alloc Da
theorem he(a:World)(b c:aH):(gN a b c).heap.size=a.heap.size+1+1+1:=by simp[gN,gM]
theorem bw(h:Below (gN w c f).heap.size (gN w c f) W):eB W w.heap.size c/\eB W (w.heap.size+1) f/\Vx W w.heap.size/\Vx W (w.heap.size+1)/\hZ W (w.heap.size+1+1)/\w.heap.size+1+1<W.heap.size:=by have d:=h.size;rw[he] at d;obtain⟨a,b⟩:=cO h;refine⟨⟨?_,?_,?_⟩,⟨?_,?_,?_⟩,⟨?_,?_,?_⟩,⟨?_,?_,?_⟩,⟨?_,?_,?_,?_,?_,?_⟩,by omega⟩;all_goals first | (rw[a _ _ (by rw[he];omega)];simp[gN,fy,go_sem];done) | (rw[b _ _ (by rw[he];omega)];simp[gN,fy,go_sem];done)
theorem dw(h:Below (gN w c f).heap.size (gN w c f) W):Bw w W:=
 (((VS.alloc bi _).alloc (by simp) _).alloc (by simp;omega) _).trans (h.mono (by rw[he];omega))
def ja(x:aH):Bool:=(bk x).k == 0
theorem yp(x:aH):ja x=(x.k != 1 && x.k != 2):=by unfold ja bk;rcases dp (x.k == 1) with a|a<;>rcases dp (x.k == 2) with b|b<;>simp[a,b,bne,aH.num,aH.str,aH.null]
theorem mW(x:aH)(b:World):Calls prog 192 #[x.v] b λc d=>c=.returned (.bool (ja x))/\Bw b d:=by
 rw[x.open_,yp];rcases dp (x.k != 1) with a|a;.go_enter func192,ntmps192;go_wp2;go_ret;exact⟨by simp[a],VS.alloc bi _⟩
 .go_enter func192,ntmps192;go_wp2;go_ret;exact⟨by simp[a],VS.alloc bi _⟩
def g5(b a:Int):Option Bool:=
 if b == 12 then some (a == 0) else if b == 13 then some (a != 0) else if b == 14 then some (decide (a<0)) else if b == 15 then some (decide (a<=0)) else if b == 16 then some (decide (0<a)) else if b == 17 then some (decide (0<=a)) else none
def Vf(b a:Int):aH:=match g5 b a with|some c=>dD c|none=>.null
def gh(c:Int)(a b:aH):aH:=if ja a || ja b then .null else Vf c (dk a b)
theorem er{t:Bool}(h:g5 I J=some t):Vf I J=dD t:=by simp[Vf,h]
theorem l5(h:g5 I J=none):Vf I J=.null:=by simp[Vf,h]
theorem xD(F:Int)(c d:aH)(G:World):Calls prog 161 #[.int .i64 F,c.v,d.v] G λe Q=>e=.returned (gh F c d).v/\Bw G Q:=by
 rw[c.open_,d.open_];unfold gh;have C:=H (mW c);have D:=H (mW d);have E:=H (kI c d);have a:Below (gN G c d).heap.size (gN G c d) (gN G c d):=VS;generalize dk c d=B at *;generalize ja c=O at *;generalize ja d=P at *;cases O
 .cases P
  .simp only[Bool.or_self,Bool.false_eq_true,if_false];rcases dp (F == 12) with I|I
   .rw[er (t:=(B == 0)) (by simp[g5, *])]
    go_enter func161,ntmps161
    go_wp2_with (first
    | (go_at_call_of 192 (Value.agg #[Value.int IntKind.i64 c.k,Value.int IntKind.i64 c.n,Value.string c.s]);refine(U C _).mono ?_;rintro e s ⟨rfl,b⟩;replace a:=ac a b;clear b;obtain⟨⟨f,g,i⟩,⟨j,k,l⟩,⟨m,n,o⟩,⟨g0,p,q⟩,⟨u,w,x,y,z,A⟩,r⟩:=bw a)
    | (go_at_call_of 192 (Value.agg #[Value.int IntKind.i64 d.k,Value.int IntKind.i64 d.n,Value.string d.s]);refine(U D _).mono ?_;rintro e s ⟨rfl,b⟩;replace a:=ac a b;clear b;obtain⟨⟨f,g,i⟩,⟨j,k,l⟩,⟨m,n,o⟩,⟨g0,p,q⟩,⟨u,w,x,y,z,A⟩,r⟩:=bw a)
    | (go_at_call 30;refine(U E _).mono ?_;rintro e s ⟨rfl,b⟩;replace a:=ac a b;clear b;obtain⟨⟨f,g,i⟩,⟨j,k,l⟩,⟨m,n,o⟩,⟨g0,p,q⟩,⟨u,w,x,y,z,A⟩,r⟩:=bw a)
    | (go_at_call 191;refine(eF _ _).mono ?_;rintro e s ⟨rfl,b⟩;replace a:=ac a b;clear b;rw[aH.open_];obtain⟨⟨f,g,i⟩,⟨j,k,l⟩,⟨m,n,o⟩,⟨g0,p,q⟩,⟨u,w,x,y,z,A⟩,r⟩:=bw a))
    refine bs (v:=(dD (B == 0)).v) (by simp[results,results161,go_sem,aH.v, *]) rfl ⟨rfl,?_⟩
    exact((((dw a).setCell (by simp<;>omega) _).setCell (by simp<;>omega) _).setCell (by simp<;>omega) _)
   rcases dp (F == 13) with J|J
   .rw[er (t:=(B != 0)) (by simp[g5, *])]
    go_enter func161,ntmps161
    go_wp2_with (first
    | (go_at_call_of 192 (Value.agg #[Value.int IntKind.i64 c.k,Value.int IntKind.i64 c.n,Value.string c.s]);refine(U C _).mono ?_;rintro e s ⟨rfl,b⟩;replace a:=ac a b;clear b;obtain⟨⟨f,g,i⟩,⟨j,k,l⟩,⟨m,n,o⟩,⟨g0,p,q⟩,⟨u,w,x,y,z,A⟩,r⟩:=bw a)
    | (go_at_call_of 192 (Value.agg #[Value.int IntKind.i64 d.k,Value.int IntKind.i64 d.n,Value.string d.s]);refine(U D _).mono ?_;rintro e s ⟨rfl,b⟩;replace a:=ac a b;clear b;obtain⟨⟨f,g,i⟩,⟨j,k,l⟩,⟨m,n,o⟩,⟨g0,p,q⟩,⟨u,w,x,y,z,A⟩,r⟩:=bw a)
    | (go_at_call 30;refine(U E _).mono ?_;rintro e s ⟨rfl,b⟩;replace a:=ac a b;clear b;obtain⟨⟨f,g,i⟩,⟨j,k,l⟩,⟨m,n,o⟩,⟨g0,p,q⟩,⟨u,w,x,y,z,A⟩,r⟩:=bw a)
    | (go_at_call 191;refine(eF _ _).mono ?_;rintro e s ⟨rfl,b⟩;replace a:=ac a b;clear b;rw[aH.open_];obtain⟨⟨f,g,i⟩,⟨j,k,l⟩,⟨m,n,o⟩,⟨g0,p,q⟩,⟨u,w,x,y,z,A⟩,r⟩:=bw a))
    refine bs (v:=(dD (B != 0)).v) (by simp[results,results161,go_sem,aH.v, *]) rfl ⟨rfl,?_⟩
    exact((((dw a).setCell (by simp<;>omega) _).setCell (by simp<;>omega) _).setCell (by simp<;>omega) _)
   rcases dp (F == 14) with K|K
   .rw[er (t:=(decide (B<0))) (by simp[g5, *])]
    go_enter func161,ntmps161
    go_wp2_with (first
    | (go_at_call_of 192 (Value.agg #[Value.int IntKind.i64 c.k,Value.int IntKind.i64 c.n,Value.string c.s]);refine(U C _).mono ?_;rintro e s ⟨rfl,b⟩;replace a:=ac a b;clear b;obtain⟨⟨f,g,i⟩,⟨j,k,l⟩,⟨m,n,o⟩,⟨g0,p,q⟩,⟨u,w,x,y,z,A⟩,r⟩:=bw a)
    | (go_at_call_of 192 (Value.agg #[Value.int IntKind.i64 d.k,Value.int IntKind.i64 d.n,Value.string d.s]);refine(U D _).mono ?_;rintro e s ⟨rfl,b⟩;replace a:=ac a b;clear b;obtain⟨⟨f,g,i⟩,⟨j,k,l⟩,⟨m,n,o⟩,⟨g0,p,q⟩,⟨u,w,x,y,z,A⟩,r⟩:=bw a)
    | (go_at_call 30;refine(U E _).mono ?_;rintro e s ⟨rfl,b⟩;replace a:=ac a b;clear b;obtain⟨⟨f,g,i⟩,⟨j,k,l⟩,⟨m,n,o⟩,⟨g0,p,q⟩,⟨u,w,x,y,z,A⟩,r⟩:=bw a)
    | (go_at_call 191;refine(eF _ _).mono ?_;rintro e s ⟨rfl,b⟩;replace a:=ac a b;clear b;rw[aH.open_];obtain⟨⟨f,g,i⟩,⟨j,k,l⟩,⟨m,n,o⟩,⟨g0,p,q⟩,⟨u,w,x,y,z,A⟩,r⟩:=bw a))
    refine bs (v:=(dD (decide (B<0))).v) (by simp[results,results161,go_sem,aH.v, *]) rfl ⟨rfl,?_⟩
    exact((((dw a).setCell (by simp<;>omega) _).setCell (by simp<;>omega) _).setCell (by simp<;>omega) _)
   rcases dp (F == 15) with L|L
   .rw[er (t:=(decide (B<=0))) (by simp[g5, *])]
    go_enter func161,ntmps161
    go_wp2_with (first
    | (go_at_call_of 192 (Value.agg #[Value.int IntKind.i64 c.k,Value.int IntKind.i64 c.n,Value.string c.s]);refine(U C _).mono ?_;rintro e s ⟨rfl,b⟩;replace a:=ac a b;clear b;obtain⟨⟨f,g,i⟩,⟨j,k,l⟩,⟨m,n,o⟩,⟨g0,p,q⟩,⟨u,w,x,y,z,A⟩,r⟩:=bw a)
    | (go_at_call_of 192 (Value.agg #[Value.int IntKind.i64 d.k,Value.int IntKind.i64 d.n,Value.string d.s]);refine(U D _).mono ?_;rintro e s ⟨rfl,b⟩;replace a:=ac a b;clear b;obtain⟨⟨f,g,i⟩,⟨j,k,l⟩,⟨m,n,o⟩,⟨g0,p,q⟩,⟨u,w,x,y,z,A⟩,r⟩:=bw a)
    | (go_at_call 30;refine(U E _).mono ?_;rintro e s ⟨rfl,b⟩;replace a:=ac a b;clear b;obtain⟨⟨f,g,i⟩,⟨j,k,l⟩,⟨m,n,o⟩,⟨g0,p,q⟩,⟨u,w,x,y,z,A⟩,r⟩:=bw a)
    | (go_at_call 191;refine(eF _ _).mono ?_;rintro e s ⟨rfl,b⟩;replace a:=ac a b;clear b;rw[aH.open_];obtain⟨⟨f,g,i⟩,⟨j,k,l⟩,⟨m,n,o⟩,⟨g0,p,q⟩,⟨u,w,x,y,z,A⟩,r⟩:=bw a))
    refine bs (v:=(dD (decide (B<=0))).v) (by simp[results,results161,go_sem,aH.v, *]) rfl ⟨rfl,?_⟩
    exact((((dw a).setCell (by simp<;>omega) _).setCell (by simp<;>omega) _).setCell (by simp<;>omega) _)
   rcases dp (F == 16) with M|M
   .rw[er (t:=(decide (0<B))) (by simp[g5, *])]
    go_enter func161,ntmps161
    go_wp2_with (first
    | (go_at_call_of 192 (Value.agg #[Value.int IntKind.i64 c.k,Value.int IntKind.i64 c.n,Value.string c.s]);refine(U C _).mono ?_;rintro e s ⟨rfl,b⟩;replace a:=ac a b;clear b;obtain⟨⟨f,g,i⟩,⟨j,k,l⟩,⟨m,n,o⟩,⟨g0,p,q⟩,⟨u,w,x,y,z,A⟩,r⟩:=bw a)
    | (go_at_call_of 192 (Value.agg #[Value.int IntKind.i64 d.k,Value.int IntKind.i64 d.n,Value.string d.s]);refine(U D _).mono ?_;rintro e s ⟨rfl,b⟩;replace a:=ac a b;clear b;obtain⟨⟨f,g,i⟩,⟨j,k,l⟩,⟨m,n,o⟩,⟨g0,p,q⟩,⟨u,w,x,y,z,A⟩,r⟩:=bw a)
    | (go_at_call 30;refine(U E _).mono ?_;rintro e s ⟨rfl,b⟩;replace a:=ac a b;clear b;obtain⟨⟨f,g,i⟩,⟨j,k,l⟩,⟨m,n,o⟩,⟨g0,p,q⟩,⟨u,w,x,y,z,A⟩,r⟩:=bw a)
    | (go_at_call 191;refine(eF _ _).mono ?_;rintro e s ⟨rfl,b⟩;replace a:=ac a b;clear b;rw[aH.open_];obtain⟨⟨f,g,i⟩,⟨j,k,l⟩,⟨m,n,o⟩,⟨g0,p,q⟩,⟨u,w,x,y,z,A⟩,r⟩:=bw a))
    refine bs (v:=(dD (decide (0<B))).v) (by simp[results,results161,go_sem,aH.v, *]) rfl ⟨rfl,?_⟩
    exact((((dw a).setCell (by simp<;>omega) _).setCell (by simp<;>omega) _).setCell (by simp<;>omega) _)
   rcases dp (F == 17) with N|N
   .rw[er (t:=(decide (0<=B))) (by simp[g5, *])]
    go_enter func161,ntmps161
    go_wp2_with (first
    | (go_at_call_of 192 (Value.agg #[Value.int IntKind.i64 c.k,Value.int IntKind.i64 c.n,Value.string c.s]);refine(U C _).mono ?_;rintro e s ⟨rfl,b⟩;replace a:=ac a b;clear b;obtain⟨⟨f,g,i⟩,⟨j,k,l⟩,⟨m,n,o⟩,⟨g0,p,q⟩,⟨u,w,x,y,z,A⟩,r⟩:=bw a)
    | (go_at_call_of 192 (Value.agg #[Value.int IntKind.i64 d.k,Value.int IntKind.i64 d.n,Value.string d.s]);refine(U D _).mono ?_;rintro e s ⟨rfl,b⟩;replace a:=ac a b;clear b;obtain⟨⟨f,g,i⟩,⟨j,k,l⟩,⟨m,n,o⟩,⟨g0,p,q⟩,⟨u,w,x,y,z,A⟩,r⟩:=bw a)
    | (go_at_call 30;refine(U E _).mono ?_;rintro e s ⟨rfl,b⟩;replace a:=ac a b;clear b;obtain⟨⟨f,g,i⟩,⟨j,k,l⟩,⟨m,n,o⟩,⟨g0,p,q⟩,⟨u,w,x,y,z,A⟩,r⟩:=bw a)
    | (go_at_call 191;refine(eF _ _).mono ?_;rintro e s ⟨rfl,b⟩;replace a:=ac a b;clear b;rw[aH.open_];obtain⟨⟨f,g,i⟩,⟨j,k,l⟩,⟨m,n,o⟩,⟨g0,p,q⟩,⟨u,w,x,y,z,A⟩,r⟩:=bw a))
    refine bs (v:=(dD (decide (0<=B))).v) (by simp[results,results161,go_sem,aH.v, *]) rfl ⟨rfl,?_⟩
    exact((((dw a).setCell (by simp<;>omega) _).setCell (by simp<;>omega) _).setCell (by simp<;>omega) _)
   rw[l5 (by simp[g5, *])];go_enter func161,ntmps161
   go_wp2_with (first
    | (go_at_call_of 192 (Value.agg #[Value.int IntKind.i64 c.k,Value.int IntKind.i64 c.n,Value.string c.s]);refine(U C _).mono ?_;rintro e s ⟨rfl,b⟩;replace a:=ac a b;clear b;obtain⟨⟨f,g,i⟩,⟨j,k,l⟩,⟨m,n,o⟩,⟨g0,p,q⟩,⟨u,w,x,y,z,A⟩,r⟩:=bw a)
    | (go_at_call_of 192 (Value.agg #[Value.int IntKind.i64 d.k,Value.int IntKind.i64 d.n,Value.string d.s]);refine(U D _).mono ?_;rintro e s ⟨rfl,b⟩;replace a:=ac a b;clear b;obtain⟨⟨f,g,i⟩,⟨j,k,l⟩,⟨m,n,o⟩,⟨g0,p,q⟩,⟨u,w,x,y,z,A⟩,r⟩:=bw a)
    | (go_at_call 30;refine(U E _).mono ?_;rintro e s ⟨rfl,b⟩;replace a:=ac a b;clear b;obtain⟨⟨f,g,i⟩,⟨j,k,l⟩,⟨m,n,o⟩,⟨g0,p,q⟩,⟨u,w,x,y,z,A⟩,r⟩:=bw a))
   refine bs (v:=aH.null.v) (by simp[results,results161,go_sem,aH.v,aH.null, *]) rfl ⟨rfl,?_⟩;exact((((dw a).setCell (by simp<;>omega) _).setCell (by simp<;>omega) _).setCell (by simp<;>omega) _)
  .simp only[Bool.or_true,if_true];go_enter func161,ntmps161
   go_wp2_with (first
    | (go_at_call_of 192 (Value.agg #[Value.int IntKind.i64 c.k,Value.int IntKind.i64 c.n,Value.string c.s]);refine(U C _).mono ?_;rintro e s ⟨rfl,b⟩;replace a:=ac a b;clear b;obtain⟨⟨f,g,i⟩,⟨j,k,l⟩,⟨m,n,o⟩,⟨g0,p,q⟩,⟨u,w,x,y,z,A⟩,r⟩:=bw a)
    | (go_at_call_of 192 (Value.agg #[Value.int IntKind.i64 d.k,Value.int IntKind.i64 d.n,Value.string d.s]);refine(U D _).mono ?_;rintro e s ⟨rfl,b⟩;replace a:=ac a b;clear b;obtain⟨⟨f,g,i⟩,⟨j,k,l⟩,⟨m,n,o⟩,⟨g0,p,q⟩,⟨u,w,x,y,z,A⟩,r⟩:=bw a)
    | (go_at_call 30;refine(U E _).mono ?_;rintro e s ⟨rfl,b⟩;replace a:=ac a b;clear b;obtain⟨⟨f,g,i⟩,⟨j,k,l⟩,⟨m,n,o⟩,⟨g0,p,q⟩,⟨u,w,x,y,z,A⟩,r⟩:=bw a))
   refine bs (v:=aH.null.v) (by simp[results,results161,go_sem,aH.v,aH.null, *]) rfl ⟨rfl,?_⟩;exact((((dw a).setCell (by simp<;>omega) _).setCell (by simp<;>omega) _).setCell (by simp<;>omega) _)
 .simp only[Bool.true_or,if_true];go_enter func161,ntmps161
  go_wp2_with (first
   | (go_at_call_of 192 (Value.agg #[Value.int IntKind.i64 c.k,Value.int IntKind.i64 c.n,Value.string c.s]);refine(U C _).mono ?_;rintro e s ⟨rfl,b⟩;replace a:=ac a b;clear b;obtain⟨⟨f,g,i⟩,⟨j,k,l⟩,⟨m,n,o⟩,⟨g0,p,q⟩,⟨u,w,x,y,z,A⟩,r⟩:=bw a)
   | (go_at_call_of 192 (Value.agg #[Value.int IntKind.i64 d.k,Value.int IntKind.i64 d.n,Value.string d.s]);refine(U D _).mono ?_;rintro e s ⟨rfl,b⟩;replace a:=ac a b;clear b;obtain⟨⟨f,g,i⟩,⟨j,k,l⟩,⟨m,n,o⟩,⟨g0,p,q⟩,⟨u,w,x,y,z,A⟩,r⟩:=bw a)
   | (go_at_call 30;refine(U E _).mono ?_;rintro e s ⟨rfl,b⟩;replace a:=ac a b;clear b;obtain⟨⟨f,g,i⟩,⟨j,k,l⟩,⟨m,n,o⟩,⟨g0,p,q⟩,⟨u,w,x,y,z,A⟩,r⟩:=bw a))
  refine bs (v:=aH.null.v) (by simp[results,results161,go_sem,aH.v,aH.null, *]) rfl ⟨rfl,?_⟩;exact((((dw a).setCell (by simp<;>omega) _).setCell (by simp<;>omega) _).setCell (by simp<;>omega) _)
theorem ly(x:aH):bk (bk x)=bk x:=by unfold bk;rcases dp (x.k == 1) with a|a<;>rcases dp (x.k == 2) with b|b<;>simp[a,b,aH.num,aH.str,aH.null]
inductive Ex where
 | mk (op n:Int) (v:aH) (args:List Ex)
def Ex.op:Ex->Int | .mk a _ _ _=>a
end
def Ex.n:Ex->Int | .mk _ a _ _=>a
def Ex.v:Ex->aH | .mk _ _ a _=>a
def Ex.args:Ex->List Ex | .mk _ _ _ a=>a
mutual
def Ex.size:Ex->Nat
 | .mk _ _ _ a=>Ex.aB a+1
def Ex.aB:List Ex->Nat
 | []=>0
 | a::b=>a.size+Ex.aB b
end
theorem Ex.ak(a:Ex):a.size=Ex.aB a.args+1:=by cases a;rw[Ex.size];rfl
theorem Ex.az:∀{b:List Ex} {a:Ex},a∈b->a.size<=Ex.aB b
 | [],_,h=>by cases h
 | c::b,a,h=>by rw[Ex.aB];rcases dr h with rfl|h;(.omega);.have:=Ex.az h;omega
theorem Ex.ar{e x:Ex}{i:Nat}(h:e.args[i]?=some x):x.size<e.size:=by have:=Ex.az (VQ h);rw[Ex.ak e];omega
def Ex.val(a:Ex)(b:Option Addr)(c:Nat):Value:=.agg #[.int .i64 a.op,.int .i64 a.n,.int .i64 a.v.k,.int .i64 a.v.n,.string a.v.s,.slice b a.args.length c]
theorem Ex.ad(a:Ex)(b:Option Addr)(c:Nat):a.val b c=.agg #[.int .i64 a.op,.int .i64 a.n,.int .i64 a.v.k,.int .i64 a.v.n,.string a.v.s,.slice b a.args.length c]:=rfl
mutual
def Ex.at(a:World)(b c:Nat):Ex->Prop
 | .mk j i d f=>∃e g,(a.cell? ⟨b,c,none⟩=some (.int .i64 j)/\a.cell? ⟨b,c+1,none⟩=some (.int .i64 i)/\a.cell? ⟨b,c+2,none⟩=some (.int .i64 d.k)/\a.cell? ⟨b,c+3,none⟩=some (.int .i64 d.n)/\a.cell? ⟨b,c+4,none⟩=some (.string d.s)/\a.cell? ⟨b,c+5,none⟩=some (.slice e f.length g))/\Ex.all a e f
def Ex.all(c:World)(d:Option Addr):List Ex->Prop
 | []=>True
 | e::f=>∃a b,d=some ⟨a,b,none⟩/\Ex.at c a b e/\(Ex.all c (some ⟨a,b+6,none⟩) f)
end
variable{W X w:World}{m n:Nat}{v:Value}{c f:aH}{I J:Int}{a:Option Addr}
theorem ae(h:w.cell? ⟨n,m,none⟩=some v)(a:Bw w W):W.cell? ⟨n,m,none⟩=some v:=by rw[(cO a).1 n m (ck _ _ h)];exact h
mutual
theorem Ex.aI:∀(f:Ex) {b e:World} {c d:Nat},Ex.at b c d f->Bw b e->Ex.at e c d f
 | .mk s r t q,b,e,c,d,h,a=>by rw[Ex.at] at h ⊢;obtain⟨g,i,⟨j,k,l,m,n,o⟩,p⟩:=h;exact⟨g,i,⟨ae j a,ae k a,ae l a,ae m a,ae n a,ae o a⟩,Ex.af q p a⟩
theorem Ex.af:∀(c:List Ex) {a d:World} {b:Option Addr},Ex.all a b c->Bw a d->Ex.all d b c
 | [],a,d,b,h,e=>by rw[Ex.all];trivial
 | g::c,a,d,b,h,e=>by rw[Ex.all] at h ⊢;obtain⟨f,l,i,j,k⟩:=h;exact⟨f,l,i,Ex.aI g j e,Ex.af c k e⟩
end
theorem Ex.ag{k:World}:∀{f:List Ex} {g:Option Addr} {i:Nat} {e:Ex},Ex.all k g f->f[i]?=some e->∃b a,g=some ⟨b,a,none⟩/\Ex.at k b (a+i*6) e
 | [],_,_,_,_,c=>by simp at c
 | p::f,g,0,e,h,c=>by rw[Ex.all] at h;obtain⟨b,a,j,n,_⟩:=h;simp at c;subst c;exact⟨b,a,j,by simpa using n⟩
 | p::f,g,i+1,e,h,c=>by rw[Ex.all] at h;obtain⟨b,a,j,_,o⟩:=h;obtain⟨q,r,d,l⟩:=Ex.ag o (by simpa using c:f[i]?=some e);injection d with d;injection d with d m;subst d m;refine⟨b,a,j,?_⟩;rw[show a+(i+1)*6=a+6+i*6 by omega];exact l
variable{e:Ex}
theorem Ex.ah(h:e.at w n m):∃a b,(w.cell? ⟨n,m,none⟩=some (.int .i64 e.op)/\w.cell? ⟨n,m+1,none⟩=some (.int .i64 e.n)/\w.cell? ⟨n,m+2,none⟩=some (.int .i64 e.v.k)/\w.cell? ⟨n,m+3,none⟩=some (.int .i64 e.v.n)/\w.cell? ⟨n,m+4,none⟩=some (.string e.v.s)/\w.cell? ⟨n,m+5,none⟩=some (.slice a e.args.length b))/\Ex.all w a e.args:=by
 cases e with
 | mk f d g c=>rw[Ex.at] at h;exact h
abbrev Ex.box (a:Ex) (b:Option Addr) (c:Nat):Obj:=.cells #[.int .i64 a.op,.int .i64 a.n,.int .i64 a.v.k,.int .i64 a.v.n,.string a.v.s,.slice b a.args.length c] 45
def ee(c:World)(a:Nat)(b:Ex)(d:Option Addr)(e:Nat):Prop:=c.cell? ⟨a,0,none⟩=some (.int .i64 b.op)/\c.cell? ⟨a,1,none⟩=some (.int .i64 b.n)/\c.cell? ⟨a,2,none⟩=some (.int .i64 b.v.k)/\c.cell? ⟨a,3,none⟩=some (.int .i64 b.v.n)/\c.cell? ⟨a,4,none⟩=some (.string b.v.s)/\c.cell? ⟨a,5,none⟩=some (.slice d b.args.length e)
theorem ee.aa(h:ee w n e a m)(b:Bw w W):ee W n e a m:=
 ⟨ae h.1 b,ae h.2.1 b,ae h.2.2.1 b,ae h.2.2.2.1 b,ae h.2.2.2.2.1 b,ae h.2.2.2.2.2 b⟩
theorem ee.new(d:World)(c:Ex)(a:Option Addr)(b:Nat):ee (d.alloc (c.box a b)) d.heap.size c a b:=⟨by simp[go_sem],by simp[go_sem],by simp[go_sem],by simp[go_sem],by simp[go_sem],by simp[go_sem]⟩
def Vk(a:Int):Int:=if a == 1 then 0 else if a == 2 then 0 else if decide (3<=a) && decide (a<=6) then 1 else if decide (7<=a) && decide (a<=20) then 2 else if a == 21 then 3 else -1
def bW(a:Ex):Bool:=((a.args.length:Int) == Vk a.op) && (if a.op == 1 then decide (0<=a.n) else if a.op == 2 then decide ((bk a.v).s.size<=1000) else true)
theorem pc(a:Int)(n:World):Calls prog 150 #[.int .i64 a] n λb s=>b=.returned (.int .i64 (Vk a))/\s=n:=by
 by_cases d:a=1;.subst d;go_enter func150,ntmps150;go_wp2;go_ret;exact⟨rfl,rfl⟩
 by_cases e:a=2;.subst e;go_enter func150,ntmps150;go_wp2;go_ret;exact⟨rfl,rfl⟩
 have f:(a == 1)=false:=by simpa using d
 have g:(a == 2)=false:=by simpa using e
 by_cases c:3<=a/\a<=6;.obtain⟨c,k⟩:=c;(have b:Vk a=1:=by simp[Vk,f,g,c,k]);rw[b];clear d e b;go_enter func150,ntmps150;go_wp2;go_ret;exact⟨rfl,rfl⟩
 by_cases m:7<=a/\a<=20;.obtain⟨j,l⟩:=m;(have b:Vk a=2:=by(have:¬a<=6:=by omega);simp[Vk,f,g,j,l,this]);rw[b];(have t:3<=a:=by omega);(have u:¬a<=6:=by omega);clear d e b c;go_enter func150,ntmps150;go_wp2;go_ret;exact⟨rfl,rfl⟩
 by_cases i:a=21;.subst i;go_enter func150,ntmps150;go_wp2;go_ret;exact⟨rfl,rfl⟩
 have o:(a == 21)=false:=by simpa using i
 have b:Vk a=-1:=by unfold Vk;rw[f,g,o];(have p:(decide (3<=a) && decide (a<=6))=false:=by simp;omega);(have q:(decide (7<=a) && decide (a<=20))=false:=by simp;omega);rw[p,q];rfl
 rw[b];have r:(¬3<=a)∨(3<=a/\¬a<=6/\7<=a/\¬a<=20):=by omega
 clear d e i b c m;rcases r with c|⟨c,k,j,l⟩;·(have j:¬7<=a:=by omega);go_enter func150,ntmps150;go_wp2;go_ret;exact⟨rfl,rfl⟩
 .go_enter func150,ntmps150;go_wp2;go_ret;exact⟨rfl,rfl⟩
theorem CM(c d:Int)(b:ByteArray)(a:World):(Instr.field 43 (.agg #[.int .i64 c,.int .i64 d,.string b]) 2).run prog a=.ok (.string b) a:=by kernel_rfl
theorem CN(b c:Int)(d:ByteArray)(a:World):(Instr.field 43 (.agg #[.int .i64 b,.int .i64 c,.string d]) 0).run prog a=.ok (.int .i64 b) a:=by kernel_rfl
theorem BC(a:Int)(b:World):Calls prog 150 #[.int .i64 a] b λc d=>c=.returned (.int .i64 (Vk a))/\∃g,d=b.drewN g:=
 (pc a b).mono λc d ⟨e,f⟩=>⟨e,0,by rw[f];rfl⟩
theorem vr(a:Ex)(f:Option Addr)(g:Nat)(d:World)(O:a.args.length<=140737488355328)(P:a.v.s.size<=140737488355328):Calls prog 100 #[a.val f g] d λe i=>e=.returned (.bool (bW a))/\Bw d i:=by
 rw[Ex.ad];have B:=H (BC a.op);obtain⟨n,s⟩:=bn (bk a.v);have u:Hid (∀b,Calls prog 47 #[a.v.v] b λe i=>e=.returned n.v/\Bw b i):=λb=>by rw[s];exact ec a.v b
 have y:bW a=(((a.args.length:Int) == Vk a.op) && (if a.op == 1 then decide (0<=a.n) else if a.op == 2 then decide (n.s.size<=1000) else true)):=by rw[s];rfl
 rw[y];clear y;obtain⟨k,r⟩:=bn (Vk a.op);have C:Hid (∀b,Calls prog 150 #[.int .i64 a.op] b λe i=>e=.returned (.int .i64 k)/\i=b):=λb=>by rw[r];exact pc a.op b
 rw[<-r];obtain⟨M,q⟩:=bn (((a.args.length:Int) == k) && (if a.op == 1 then decide (0<=a.n) else if a.op == 2 then decide (n.s.size<=1000) else true));rw[<-q];have c:=H q;clear q;have l:Hid (ee (d.alloc (a.box f g)) d.heap.size a f g):=ee.new d a f g;have t:=H (am (VT _ d) (a.box f g));clear B r s;go_enter func100,ntmps100;go_upto_region 1 with fail;obtain⟨A,z⟩:=bn (d.alloc (a.box f g));rw[<-z] at l t ⊢;clear z;obtain⟨D,E,F,c3,G,I⟩:=U l;obtain⟨m,w⟩:=bj ((a.args.length:Int) != k);go_cut[9] (λK L=>K=.bool m/\Bw A L);case first=>go_region_with (go_at_call 150;refine(U C _).mono ?_;rintro e R ⟨rfl,rfl⟩);all_goals go_wp2;go_meet;exact⟨rfl,VS.drew⟩
 case rest=>
  obtain⟨rfl,v⟩:=hcut
  rename World=>w1
  obtain⟨D,E,F,c3,G,I⟩:=(U l).aa v
  have j:=H (ac (U t) v)
  have x:((a.args.length:Int) == k)=!m:=by rw[<-w];simp[bne]
  rw[x] at c
  clear x w
  cases m with
  | true=>
   go_wp2
   go_ret
   exact⟨by rw[U c];rfl,U j⟩
  | false=>
   rcases dp (a.op == 1) with o|o
   .rw[o] at c
    go_wp2
    go_ret
    exact⟨by rw[U c];simp,U j⟩
   .rw[o] at c
    rcases dp (a.op == 2) with p|p
    .rw[p] at c
     rw[aH.open_] at u
     have N:=CM
     go_wp2_with (go_at_call 47;refine(U u _).mono ?_;rintro e Q ⟨rfl,J⟩;rw[aH.open_])
     go_ret
     exact⟨by rw[U c];simp;omega,ac (U j) J⟩
    .rw[p] at c
     go_wp2
     go_ret
     exact⟨by rw[U c];simp,U j⟩
end Go.Proofs.YtklgoolblpmmlaaGreat

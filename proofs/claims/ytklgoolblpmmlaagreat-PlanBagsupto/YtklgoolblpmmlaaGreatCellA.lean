import Derived.Test.YtklgoolblpmmlaaGreatChecked
import Derived.WalkKit
import Derived.WalkSpells
import Derived.WalkLawsBesides
import Derived.StillTactics
import Derived.Deep.RegionHeld3
import Derived.Lib.QuietBelow
import Derived.BigQuiet
import Derived.RowKit3
set_option linter.all false
set_option maxHeartbeats 4000000
namespace Go.Proofs.YtklgoolblpmmlaaGreat
open Go.RowKit Go.Proofs.Tryz
section
variable{k m n:Nat}{W w:World}{v:Value}{I:Int}{o:Bool}
theorem VS:Below n w w:=Below.refl n w
theorem VT(b:Nat)(a:World):Below b a a:=Below.refl b a
theorem bi:n<=n:=Nat.le_refl n
theorem VR{α:Type}{l:List α}{i:Nat}(h:i<l.length):l[i]?=some l[i]:=List.getElem?_eq_getElem h
theorem VQ{α:Type}{b:List α}{i:Nat}{a:α}(h:b[i]?=some a):a∈b:=List.mem_of_getElem? h
theorem bt:0<=n:=Nat.zero_le n
theorem bD{α:Type}{a:α}{b:List α}(h:b[n]?=some a):∃h,b[n]=a:=List.getElem?_eq_some_iff.1 h
theorem bG{α:Type}{a b:List α}:(a++b).length=a.length+b.length:=List.length_append
theorem bI(a:Nat):0+a=a:=Nat.zero_add a
theorem bL{α c:Type}{a:α->c}{b:List α}:(List.map a b)[n]?=Option.map a b[n]?:=List.getElem?_map
theorem bQ{α b:Type}{a:List α}(f:α->b):(List.map f a).length=a.length:=List.length_map f
theorem b6{α e:Type}{b:e}{c:α->e}{d:List α}(h:b∈List.map c d):∃a,a∈d/\c a=b:=List.mem_map.1 h
theorem ck(b:World)(a:Addr)(h:b.cell? a=some v):a.block<b.heap.size:=World.block_lt_of_cell? b a h
theorem cw(h:n<=m)(a:m<=k):n<=k:=Nat.le_trans h a
theorem cI{α:Type}(a b c:List α):a++b++c=a++(b++c):=List.append_assoc a b c
theorem cN(h:n<m)(a:m<=k):n<k:=Nat.lt_of_lt_of_le h a
theorem cM{α:Type}{a:α}{b c:List α}(h:a∈b++c):a∈b∨a∈c:=List.mem_append.1 h
theorem cQ{α:Type}{l:List α}{a:α}:l.getD n a=l[n]?.getD a:=List.getD_eq_getElem?_getD
theorem dp(a:Bool):a=true∨a=false:=Bool.eq_false_or_eq_true a
theorem dF{α:Type}{a:List α}(h:a.length=0):a=[]:=List.eq_nil_of_length_eq_zero h
theorem VU{a:Prop}{h:Decidable a}(c:¬a){α:Sort _}{d b:α}:(if a then d else b)=b:=if_neg c
theorem ba{a:Prop}{h:Decidable a}(d:a){α:Sort _}{b c:α}:(if a then b else c)=b:=if_pos d
theorem cc(a b:Bool):((a&&b)=true)=(a=true/\b=true):=Bool.and_eq_true a b
theorem bs{b:Program}{e:Func}{c:Ending->World->Prop}{a:Act}{v:Value}(h:(results e a.tmps).run b w=.ok v w)(d:a.defers=[])(f:c (.returned v) w):bodyPost b e c .ret a w:=bodyPost_ret h d f
theorem dr{α:Type}{b:α}{c:List α}{a:α}(h:a∈b::c):a=b∨a∈c:=List.mem_cons.1 h
theorem VI{α:Type}(a:List α):a++[]=a:=List.append_nil a
theorem dy{α:Type}{a:List α}:List.take a.length a=a:=List.take_length
theorem dK{α:Type}(a:List α):[]++a=a:=List.nil_append a
theorem dX{α d:Type}{a:α->d}{b:α}{c:List α}:List.map a (b::c)=a b::List.map a c:=List.map_cons
theorem dY{α:Type}{b:α}{a:List α}:(b::a).length=a.length+1:=List.length_cons
theorem ep{α d:Type}{a:α->d}{b c:List α}:List.map a (b++c)=List.map a b++List.map a c:=List.map_append
theorem ez{α:Type}{a b:List α}(h:a.length<=n):(a++b)[n]?=b[n-a.length]?:=List.getElem?_append_right h
theorem eK{α:Type}{a b:List α}(h:n<a.length):(a++b)[n]?=a[n]?:=List.getElem?_append_left h
theorem eA{α c:Type}{x:α}{b:List α}{a:α->List c}:List.flatMap a (x::b)=a x++List.flatMap a b:=List.flatMap_cons
theorem eL{α:Type}{a:α}{b c:List α}:a::b++c=a::(b++c):=List.cons_append
theorem cF{a:Prop}[Decidable a]:(decide a=true)=a:=decide_eq_true_eq
theorem fz{α:Type}{a:List α}(h:a.length<=n):List.take n a=a:=List.take_of_length_le h
theorem fA{α c:Type}{b:List α}{a:α}{f:α->c}(h:a∈b):f a∈List.map f b:=List.mem_map_of_mem h
theorem f9{α:Type}{a:α}{b:List α}(h:a∈b):∃c:Nat,b[c]?=some a:=List.getElem?_of_mem h
theorem gP{α:Type}{a:List α}(h:n<a.length):List.drop n a=a[n]::List.drop (n+1) a:=List.drop_eq_getElem_cons h
theorem gl{α:Type}{a:List α}(h:a.length<=n):List.drop n a=[]:=List.drop_eq_nil_of_le h
theorem hH(a:Int)(h:-9223372036854775808<=a/\a<=9223372036854775807):IntKind.i64.wrap a=a:=IntWalk.i64_in a h
abbrev Bw (a x:World):Prop:=Below a.heap.size a x
theorem bj{α:Sort _}(a:α):∃b,a=b:=⟨_,rfl⟩
theorem bn{α:Sort _}(a:α):∃b,b=a:=⟨_,rfl⟩
structure aH where
 k:Int
 n:Int
 s:ByteArray
end
def aH.v(x:aH):Value:=.agg #[.int .i64 x.k,.int .i64 x.n,.string x.s]
theorem aH.open_(x:aH):x.v=.agg #[.int .i64 x.k,.int .i64 x.n,.string x.s]:=rfl
def aH.null:aH:=⟨0,0,⟨#[]⟩⟩
def aH.num(a:Int):aH:=⟨1,a,⟨#[]⟩⟩
def aH.str(a:ByteArray):aH:=⟨2,0,a⟩
def dD(a:Bool):aH:=.num (if a then 1 else 0)
def VK(x:aH):Bool:=x.k == 1 && x.n != 0
def jq(x:aH):Bool:=x.k == 1 && x.n == 0
def ib(x:aH):aH:=if x.k=1 then dD (!VK x) else .null
def dW(c:Int)(a b:aH):aH:=
 if c=19 then (if jq a || jq b then dD false else if a.k == 1 && b.k == 1 then dD true else .null)
 else if c=20 then (if VK a || VK b then dD true else if a.k == 1 && b.k == 1 then dD false else .null)
 else .null
variable{W w:World}{k m n:Nat}{v:Value}{I:Int}{o:Bool}
theorem cO(c:Bw w W):(∀a b,a<w.heap.size->W.cell? ⟨a,b,none⟩=w.cell? ⟨a,b,none⟩)/\(∀a b,a<w.heap.size->W.frozen? ⟨a,b,none⟩=w.frozen? ⟨a,b,none⟩):=
 ⟨λa b h=>c.cell (p:=⟨a,b,none⟩) h,λa b h=>c.frozen (p:=⟨a,b,none⟩) h⟩
theorem jl(a:Int)(b:World):Calls prog 92 #[.int .i64 a] b λc d=>c=.returned (aH.num a).v/\Bw b d:=by unfold aH.v aH.num;go_enter func92,ntmps92;go_wp2;exact bs (v:=.agg #[.int .i64 1,.int .i64 a,.string ⟨#[]⟩]) (by simp[results,results92,go_sem]) rfl ⟨rfl,VS.alloc bi _⟩
theorem il(x:aH)(b:World):Calls prog 19 #[x.v] b λc e=>c=.returned (.bool (VK x))/\Bw b e:=by
 rw[x.open_];unfold VK;by_cases a:(x.k == 1)=true;.go_enter func19,ntmps19;go_wp2;go_ret;exact⟨by simp[a],VS.alloc bi _⟩
 ·(have d:(x.k == 1)=false:=by simpa using a);clear a;go_enter func19,ntmps19;go_wp2;go_ret;exact⟨by simp[d],VS.alloc bi _⟩
theorem rL(x:aH)(b:World):Calls prog 193 #[x.v] b λc e=>c=.returned (.bool (jq x))/\Bw b e:=by
 rw[x.open_];unfold jq;by_cases a:(x.k == 1)=true;.go_enter func193,ntmps193;go_wp2;go_ret;exact⟨by simp[a],VS.alloc bi _⟩
 ·(have d:(x.k == 1)=false:=by simpa using a);clear a;go_enter func193,ntmps193;go_wp2;go_ret;exact⟨by simp[d],VS.alloc bi _⟩
theorem eF(a:Bool)(b:World):Calls prog 191 #[.bool a] b λc g=>c=.returned (dD a).v/\Bw b g:=by cases a <;>.go_enter func191,ntmps191;go_wp2_with (go_at_call 92;refine(jl _ _).mono ?_;rintro c i ⟨rfl,d⟩;obtain⟨e,f⟩:=cO d;rw[aH.open_]);refine bs (v:=(dD _).v) (by simp[results,results191,go_sem,dD,aH.v,aH.num,e,f]) rfl ⟨rfl,?_⟩;exact(((((VS.alloc bi _).trans (d.mono (by simp))).setCell (by simp) _).setCell (by simp) _).setCell (by simp) _)
theorem AU(x:aH)(c:World):Calls prog 156 #[x.v] c λd o=>d=.returned (ib x).v/\Bw c o:=by
 rw[x.open_];by_cases a:(x.k == 1)=true;·(have m:(x.k != 1)=false:=by simpa using a);(have b:ib x=dD (!VK x):=by simp[ib,beq_iff_eq.1 a]);rw[b];clear b;go_enter func156,ntmps156;go_wp2_with (first | (go_at_call 19;refine(il x _).mono ?_;rintro d p ⟨rfl,e⟩;obtain⟨i,k⟩:=cO e;have n:c.heap.size+1<p.heap.size:=by have:=e.size;simp at this;omega) | (go_at_call 191;refine(eF _ _).mono ?_;rintro d q ⟨rfl,f⟩;obtain⟨j,l⟩:=cO f;rw[aH.open_]));refine bs (v:=(dD (!VK x)).v) (by simp[results,results156,go_sem,aH.v,i,k,j,l,n]) rfl ⟨rfl,?_⟩;exact(((((((VS.alloc bi _).alloc (by simp) _).trans (e.mono (by simp;omega))).trans (f.mono (by omega))).setCell (by simp) _).setCell (by simp) _).setCell (by simp) _)
 ·(have g:(x.k == 1)=false:=by simpa using a);(have m:(x.k != 1)=true:=by simpa using a);(have b:ib x=.null:=by simp at g;simp[ib,g]);rw[b];clear b a;go_enter func156,ntmps156;go_wp2;exact bs (v:=aH.null.v) (by simp[results,results156,go_sem,aH.v,aH.null]) rfl ⟨rfl,by repeat (first|exact VS|refine Below.alloc ?_ (by simp<;>omega) _|refine Below.setCell ?_ (by simp<;>omega) _)⟩
theorem t7(b:Int)(a c:aH)(d:World)(e:(b == 19)=false)(f:(b == 20)=false):Calls prog 164 #[.int .i64 b,a.v,c.v] d λj k=>j=.returned (dW b a c).v/\Bw d k:=by
 have i:dW b a c=.null:=by simp at e f;simp[dW,e,f]
 rw[a.open_,c.open_,i];clear i;by_cases g:(a.k == 1)=true;.go_enter func164,ntmps164;go_wp2;exact bs (v:=aH.null.v) (by simp[results,results164,go_sem,aH.v,aH.null]) rfl ⟨rfl,by repeat (first|exact VS|refine Below.alloc ?_ (by simp<;>omega) _|refine Below.setCell ?_ (by simp<;>omega) _)⟩
 ·(have l:(a.k == 1)=false:=by simpa using g);clear g;go_enter func164,ntmps164;go_wp2;exact bs (v:=aH.null.v) (by simp[results,results164,go_sem,aH.v,aH.null]) rfl ⟨rfl,by repeat (first|exact VS|refine Below.alloc ?_ (by simp<;>omega) _|refine Below.setCell ?_ (by simp<;>omega) _)⟩
theorem zJ(a b:aH)(c:World):Calls prog 164 #[.int .i64 19,a.v,b.v] c λd l=>d=.returned (dW 19 a b).v/\Bw c l:=by
 rw[a.open_,b.open_];rcases dp (a.k == 1) with j|j<;>rcases dp (b.k == 1) with k|k<;>rcases dp (jq a) with f|f<;>rcases dp (jq b) with g|g
 all_goals
  go_enter func164,ntmps164
  go_wp2_with (first
   | (go_at_call 193;refine(rL _ _).mono ?_;rintro d m ⟨rfl,e⟩;obtain⟨n,p⟩:=cO e;have r:c.heap.size+1+1<m.heap.size:=by have:=e.size;(try simp at this);omega)
   | (go_at_call 191;refine(eF _ _).mono ?_;rintro d s ⟨rfl,i⟩;obtain⟨o,q⟩:=cO i;rw[aH.open_]))
  refine bs (v:=(dW 19 a b).v) (by simp[results,results164,go_sem,dW,aH.v,aH.null, *]) rfl ⟨rfl,?_⟩;(repeat (first|exact VS|refine Below.alloc ?_ (by simp<;>omega) _|refine Below.setCell ?_ (by simp<;>omega) _|refine Below.trans ?_ (Below.mono (by assumption) (by first|omega | (simp;omega)))))
theorem BB(a b:aH)(c:World):Calls prog 164 #[.int .i64 20,a.v,b.v] c λd l=>d=.returned (dW 20 a b).v/\Bw c l:=by
 rw[a.open_,b.open_];rcases dp (a.k == 1) with j|j<;>rcases dp (b.k == 1) with k|k<;>rcases dp (VK a) with f|f<;>rcases dp (VK b) with g|g
 all_goals
  go_enter func164,ntmps164
  go_wp2_with (first
   | (go_at_call 19;refine(il _ _).mono ?_;rintro d m ⟨rfl,e⟩;obtain⟨n,p⟩:=cO e;have r:c.heap.size+1+1<m.heap.size:=by have:=e.size;(try simp at this);omega)
   | (go_at_call 191;refine(eF _ _).mono ?_;rintro d s ⟨rfl,i⟩;obtain⟨o,q⟩:=cO i;rw[aH.open_]))
  refine bs (v:=(dW 20 a b).v) (by simp[results,results164,go_sem,dW,aH.v,aH.null, *]) rfl ⟨rfl,?_⟩;(repeat (first|exact VS|refine Below.alloc ?_ (by simp<;>omega) _|refine Below.setCell ?_ (by simp<;>omega) _|refine Below.trans ?_ (Below.mono (by assumption) (by first|omega | (simp;omega)))))
theorem H{a:Prop}(h:a):Hid a:=h
theorem U{a:Prop}(h:Hid a):a:=h
def dT:Int:=-9223372036854775808
def dU(a:Int):Bool:=decide (-9223372036854775808<=a) && decide (a<=9223372036854775807)
def bY(a:Int):Prop:=-9223372036854775808<=a/\a<=9223372036854775807
theorem Ap(x a:Int)(b:World):Calls prog 202 #[.int .i64 x,.int .i64 a] b λc d=>c=.returned (.tuple #[.int .i64 (wrap64 (x+a)),.bool (decide (x<wrap64 (x+a)) == decide (0<a))])/\d=b:=by go_enter func202,ntmps202;go_wp2;go_ret2;exact⟨rfl,rfl⟩
theorem zl(x a:Int)(b:World):Calls prog 203 #[.int .i64 x,.int .i64 a] b λc d=>c=.returned (.tuple #[.int .i64 (wrap64 (x-a)),.bool (decide (wrap64 (x-a)<x) == decide (0<a))])/\d=b:=by go_enter func203,ntmps203;go_wp2;go_ret2;exact⟨rfl,rfl⟩
theorem xY(x:Int)(a:World):Calls prog 206 #[.int .i64 x,.int .i64 0] a λb c=>b=.returned (.tuple #[.int .i64 0,.bool false])/\c=a:=by go_enter func206,ntmps206;go_wp2;go_ret2;exact⟨rfl,rfl⟩
theorem Ay(x a:Int)(b:World)(d:¬a=0):Calls prog 206 #[.int .i64 x,.int .i64 a] b λc e=>c=.returned (.tuple #[.int .i64 (x.tmod a),.bool true])/\e=b:=by
 have f:(a == 0)=false:=by simpa using d
 go_enter func206,ntmps206;go_wp2;go_ret2;exact⟨rfl,rfl⟩
theorem xZ(x:Int)(a:World):Calls prog 205 #[.int .i64 x,.int .i64 0] a λb c=>b=.returned (.tuple #[.int .i64 0,.bool false])/\c=a:=by go_enter func205,ntmps205;go_wp2;go_ret2;exact⟨rfl,rfl⟩
theorem AA(x a:Int)(d:World)(f:¬a=0)(b:¬(x=dT/\a=-1)):Calls prog 205 #[.int .i64 x,.int .i64 a] d λe g=>e=.returned (.tuple #[.int .i64 (wrap64 (x.tdiv a)),.bool true])/\g=d:=by
 have i:(a == 0)=false:=by simpa using f
 unfold dT at b;by_cases c:(x == -9223372036854775808)=true;·(have k:(a == -1)=false:=by simp at c;simp;exact λh=>b ⟨c,h⟩);clear b;go_enter func205,ntmps205;go_wp2;go_ret2;exact⟨rfl,rfl⟩
 ·(have j:(x == -9223372036854775808)=false:=by simpa using c);clear b c;go_enter func205,ntmps205;go_wp2;go_ret2;exact⟨rfl,rfl⟩
theorem vA(a:World):Calls prog 205 #[.int .i64 dT,.int .i64 (-1)] a λb c=>b=.returned (.tuple #[.int .i64 0,.bool false])/\c=a:=by unfold dT;go_enter func205,ntmps205;go_wp2;go_ret2;exact⟨rfl,rfl⟩
theorem yw(d:Int)(a:World):Calls prog 204 #[.int .i64 0,.int .i64 d] a λb c=>b=.returned (.tuple #[.int .i64 0,.bool true])/\Bw a c:=by go_enter func204,ntmps204;go_wp2;go_ret2;exact⟨rfl,VS⟩
theorem UL(a:World):Calls prog 204 #[.int .i64 (-1),.int .i64 dT] a λb c=>b=.returned (.tuple #[.int .i64 0,.bool false])/\Bw a c:=by unfold dT;go_enter func204,ntmps204;go_wp2;go_ret2;exact⟨rfl,VS⟩
theorem AX(x a:Int)(d:World)(f:¬x=0)(b:¬(x=-1/\a=dT)):Calls prog 204 #[.int .i64 x,.int .i64 a] d λe g=>e=.returned (.tuple #[.int .i64 (wrap64 (x*a)),.bool (wrap64 ((wrap64 (x*a)).tdiv x) == a)])/\Bw d g:=by
 have i:(x == 0)=false:=by simpa using f
 unfold dT at b;by_cases c:(x == -1)=true;·(have k:(a == -9223372036854775808)=false:=by simp at c;simp;exact λh=>b ⟨c,h⟩);clear b;go_enter func204,ntmps204;go_wp2_with fail;go_quiet (fail);go_wp2;go_ret2;exact⟨rfl,below_drewN VS _⟩
 ·(have j:(x == -1)=false:=by simpa using c);clear b c;go_enter func204,ntmps204;go_wp2_with fail;go_quiet (fail);go_wp2;go_ret2;exact⟨rfl,below_drewN VS _⟩
theorem gw(h:dU I=true):wrap64 I=I:=by simp[dU] at h;unfold wrap64;omega
theorem xG(x a:Int)(b:bY x)(c:bY a):(decide (x<wrap64 (x+a)) == decide (0<a))=dU (x+a):=by unfold bY at b c;rw[Bool.eq_iff_iff];simp only[dU,wrap64,beq_iff_eq,cc,cF,decide_eq_decide];omega
theorem wK(x a:Int)(b:bY x)(c:bY a):(decide (wrap64 (x-a)<x) == decide (0<a))=dU (x-a):=by unfold bY at b c;rw[Bool.eq_iff_iff];simp only[dU,wrap64,beq_iff_eq,cc,cF,decide_eq_decide];omega
theorem yx(x a:Int)(j:bY x)(e:bY a)(p:¬x=0)(d:¬(x=-1/\a=dT)):(wrap64 ((wrap64 (x*a)).tdiv x) == a)=dU (x*a):=by
 rw[Bool.eq_iff_iff];constructor;.intro h;have h:=beq_iff_eq.1 h;have l:=Int.mul_tdiv_add_tmod (wrap64 (x*a)) x;(have v:((wrap64 (x*a)).tmod x).natAbs<x.natAbs:=by rw[Int.natAbs_tmod];exact Nat.mod_lt _ (by omega));have w:=Int.natAbs_tdiv_le_natAbs (wrap64 (x*a)) x;(have m:wrap64 (x*a)=dT->x=-1->wrap64 ((wrap64 (x*a)).tdiv x)=dT:=by intro d q;rw[d,q];decide +kernel);(have n:¬x=-1->2*((wrap64 (x*a)).tdiv x).natAbs<=(wrap64 (x*a)).natAbs∨x=1:=by intro c;by_cases t:x=1;(.exact .inr t);.refine .inl ?_;rw[Int.natAbs_tdiv];(have:2<=x.natAbs:=by omega);have y:=Nat.div_mul_le_self (wrap64 (x*a)).natAbs x.natAbs;have z:=Nat.mul_le_mul_left ((wrap64 (x*a)).natAbs / x.natAbs) this;show 2*((wrap64 (x*a)).natAbs / x.natAbs)<=_;omega);(have o:x=1->(wrap64 (x*a)).tdiv x=wrap64 (x*a):=by intro h;rw[h];simp);(have i:bY (wrap64 (x*a)):=by unfold bY wrap64;omega);(have g:wrap64 ((wrap64 (x*a)).tdiv x)=(wrap64 (x*a)).tdiv x:=by unfold bY at i j e;by_cases c:x=-1;(.have:¬wrap64 (x*a)=dT:=λr=>d ⟨c,by rw[<-h];exact m r c⟩;unfold dT at this;generalize wrap64 (x*a)=b at *;generalize b.tdiv x=u at *;unfold wrap64;omega);.rcases n c with f|f;(.generalize wrap64 (x*a)=b at *;generalize b.tdiv x=u at *;unfold wrap64;omega);.rw[o f];generalize wrap64 (x*a)=b at *;unfold wrap64;omega);rw[h] at g;rw[<-g] at l;(have s:∃k,wrap64 (x*a)=x*a+18446744073709551616*k:=by unfold wrap64;exact⟨-((x*a+9223372036854775808) / 18446744073709551616),by omega⟩);obtain⟨k,A⟩:=s;unfold bY at i j e;generalize (wrap64 (x*a)).tmod x=B at *;generalize wrap64 (x*a)=b at *;simp only[dU,cc,cF];omega
 .intro h;rw[gw h,Int.mul_tdiv_cancel_left _ p];unfold bY at e;rw[gw (by simp[dU];omega)];simp
def dA(b x a:Int):Option Int:=
 if b=7 then (if dU (x+a) then some (x+a) else none)
 else if b=8 then (if dU (x-a) then some (x-a) else none)
 else if b=9 then (if dU (x*a) then some (x*a) else none)
 else if b=10 then (if a=0 then none else if dU (x.tdiv a) then some (x.tdiv a) else none)
 else if b=11 then (if a=0 then none else some (x.tmod a))
 else none
def Cj:Option Int->aH
 | some a=>.num a
 | none=>.null
def eJ(c:Int)(a b:aH):aH:=if a.k == 1 && b.k == 1 then Cj (dA c a.n b.n) else .null
theorem vm(x a:Int)(d:bY x)(i:¬a=0):dU (x.tdiv a)=!(decide (x=dT) && decide (a=-1)):=by
 have e:=Int.natAbs_tdiv_le_natAbs x a;unfold bY at d;rw[Bool.eq_iff_iff];simp only[dU,cc,cF,Bool.not_eq_true',Bool.and_eq_false_iff,decide_eq_false_iff_not];by_cases h:x=dT
 .subst h;by_cases c:a=-1;.subst c;decide +kernel
  .by_cases b:a=1;.subst b;decide +kernel
   .have f:2*((dT).tdiv a).natAbs<=dT.natAbs:=by
     rw[Int.natAbs_tdiv]
     have:2<=a.natAbs:=by omega
     have b:=Nat.div_mul_le_self dT.natAbs a.natAbs
     have g:=Nat.mul_le_mul_left (dT.natAbs / a.natAbs) this
     show 2*(dT.natAbs / a.natAbs)<=_
     omega
    unfold dT at *
    omega
 .unfold dT at *;omega
def xe(c:Option Int)(d:Ending):Prop:=∃b,d=.returned (.tuple #[.int .i64 b,.bool c.isSome])/\∀a,c=some a->b=a
theorem fl{a:Option Int}(c:a.isSome=o)(h:∀b,a=some b->I=b):xe a (.returned (.tuple #[.int .i64 I,.bool o])):=⟨I,by rw[c],h⟩
theorem Bc(x a:Int)(c:bY x)(d:bY a):xe (dA 7 x a) (.returned (.tuple #[.int .i64 (wrap64 (x+a)),.bool (decide (x<wrap64 (x+a)) == decide (0<a))])):=by
 rw[xG x a c d];by_cases h:dU (x+a)=true;.exact fl (by simp[dA,h]) (by intro e b;simp[dA,h] at b;rw[gw h,b])
 .exact fl (by simp[dA,h]) (by intro e b;simp[dA,h] at b)
theorem Bb(x a:Int)(c:bY x)(d:bY a):xe (dA 8 x a) (.returned (.tuple #[.int .i64 (wrap64 (x-a)),.bool (decide (wrap64 (x-a)<x) == decide (0<a))])):=by
 rw[wK x a c d];by_cases h:dU (x-a)=true;.exact fl (by simp[dA,h]) (by intro e b;simp[dA,h] at b;rw[gw h,b])
 .exact fl (by simp[dA,h]) (by intro e b;simp[dA,h] at b)
theorem x5(x b:Int)(l:bY x)(m:bY b)(c:World):Calls prog 204 #[.int .i64 x,.int .i64 b] c λf g=>xe (dA 9 x b) f/\Bw c g:=by
 by_cases i:x=0;.subst i;exact(yw b c).mono λf g ⟨e,d⟩=>⟨by rw[e];exact fl (by simp[dA,dU]) (by intro k a;simp[dA,dU] at a;exact a),d⟩
 .by_cases j:x=-1/\b=dT;(.obtain⟨rfl,rfl⟩:=j;exact(UL c).mono λf g ⟨e,d⟩=>⟨by rw[e];exact fl (by simp[dA,dU,dT]) (by intro k a;simp[dA,dU,dT] at a),d⟩);.refine(AX x b c i j).mono λf g ⟨e,d⟩=>⟨?_,d⟩;rw[e,yx x b l m i j];by_cases h:dU (x*b)=true;(.exact fl (by simp[dA,h]) (by intro k a;simp[dA,h] at a;rw[gw h,a]));.exact fl (by simp[dA,h]) (by intro k a;simp[dA,h] at a)
theorem Bm(x b:Int)(m:bY x)(d:World):Calls prog 205 #[.int .i64 x,.int .i64 b] d λi j=>xe (dA 10 x b) i/\Bw d j:=by
 by_cases e:b=0;.subst e;exact(xZ x d).mono λi j ⟨g,f⟩=>⟨by rw[g];exact fl (by simp[dA]) (by intro l a;simp[dA] at a),by rw[f];exact VS⟩
 .by_cases k:x=dT/\b=-1;(.obtain⟨rfl,rfl⟩:=k;(have c:dU (dT.tdiv (-1))=false:=by decide +kernel);exact(vA d).mono λi j ⟨g,f⟩=>⟨by rw[g];exact fl (by simp only[dA,c];rfl) (by intro l a;simp only[dA,c] at a;simp at a),by rw[f];exact VS⟩);·(have c:dU (x.tdiv b)=true:=by rw[vm x b m e];simp;exact Classical.not_and_iff_not_or_not.1 k);refine(AA x b d e k).mono λi j ⟨g,f⟩=>⟨?_,by rw[f];exact VS⟩;rw[g];exact fl (by simp[dA,c,e]) (by intro l a;simp[dA,c,e] at a;rw[gw c,a])
theorem AY(x d:Int)(a:World):Calls prog 206 #[.int .i64 x,.int .i64 d] a λe i=>xe (dA 11 x d) e/\Bw a i:=by
 by_cases b:d=0;.subst b;exact(xY x a).mono λe i ⟨g,f⟩=>⟨by rw[g];exact fl (by simp[dA]) (by intro j c;simp[dA] at c),by rw[f];exact VS⟩
 .refine(Ay x d a b).mono λe i ⟨g,f⟩=>⟨?_,by rw[f];exact VS⟩;rw[g];exact fl (by simp[dA,b]) (by intro j c;simp[dA,b] at c;exact c)
theorem sV(x a:Int)(d:bY x)(e:bY a)(b:World):Calls prog 190 #[.int .i64 7,.int .i64 x,.int .i64 a] b λc f=>xe (dA 7 x a) c/\Bw b f:=by have g:=H (Bc x a d e);clear d e;go_enter func190,ntmps190;go_wp2_with (go_at_call 202;refine(Ap _ _ _).mono ?_;rintro c f ⟨rfl,rfl⟩);go_ret2;exact⟨U g,VS⟩
theorem sQ(x a:Int)(d:bY x)(e:bY a)(b:World):Calls prog 190 #[.int .i64 8,.int .i64 x,.int .i64 a] b λc f=>xe (dA 8 x a) c/\Bw b f:=by have g:=H (Bb x a d e);clear d e;go_enter func190,ntmps190;go_wp2_with (go_at_call 203;refine(zl _ _ _).mono ?_;rintro c f ⟨rfl,rfl⟩);go_ret2;exact⟨U g,VS⟩
theorem sR(x a:Int)(d:bY x)(e:bY a)(b:World):Calls prog 190 #[.int .i64 9,.int .i64 x,.int .i64 a] b λc f=>xe (dA 9 x a) c/\Bw b f:=by have g:=H (x5 x a d e);clear d e;go_enter func190,ntmps190;go_wp2_with (go_at_call 204;refine(U g _).mono ?_;rintro c f ⟨⟨k,rfl,j⟩,i⟩);go_ret2;exact⟨⟨k,rfl,j⟩,i⟩
theorem sT(x b:Int)(d:bY x)(a:World):Calls prog 190 #[.int .i64 10,.int .i64 x,.int .i64 b] a λc e=>xe (dA 10 x b) c/\Bw a e:=by have f:=H (Bm x b d);clear d;go_enter func190,ntmps190;go_wp2_with (go_at_call 205;refine(U f _).mono ?_;rintro c e ⟨⟨j,rfl,i⟩,g⟩);go_ret2;exact⟨⟨j,rfl,i⟩,g⟩
theorem sS(x d:Int)(a:World):Calls prog 190 #[.int .i64 11,.int .i64 x,.int .i64 d] a λb c=>xe (dA 11 x d) b/\Bw a c:=by go_enter func190,ntmps190;go_wp2_with (go_at_call 206;refine(AY _ _ _).mono ?_;rintro b c ⟨⟨g,rfl,f⟩,e⟩);go_ret2;exact⟨⟨g,rfl,f⟩,e⟩
theorem py(a x i:Int)(g:World)(d:¬a=7)(e:¬a=8)(f:¬a=9)(b:¬a=10)(c:¬a=11):Calls prog 190 #[.int .i64 a,.int .i64 x,.int .i64 i] g λk m=>xe (dA a x i) k/\Bw g m:=by
 have j:=H (show dA a x i=none by simp[dA,d,e,f,b,c]);have p:(a == 7)=false:=by simpa using d
 have q:(a == 8)=false:=by simpa using e
 have r:(a == 9)=false:=by simpa using f
 have n:(a == 10)=false:=by simpa using b
 have o:(a == 11)=false:=by simpa using c
 clear d e f b c;go_enter func190,ntmps190;go_wp2;go_ret2;exact⟨by rw[U j];exact fl rfl (by intro s l;cases l),VS⟩
theorem sU(c x b:Int)(d:bY x)(e:bY b)(a:World):Calls prog 190 #[.int .i64 c,.int .i64 x,.int .i64 b] a λl m=>xe (dA c x b) l/\Bw a m:=by
 by_cases i:c=7;.subst i;exact sV x b d e a
 by_cases j:c=8;.subst j;exact sQ x b d e a
 by_cases k:c=9;.subst k;exact sR x b d e a
 by_cases f:c=10;.subst f;exact sT x b d a
 by_cases g:c=11;.subst g;exact sS x b a
 exact py c x b a i j k f g
theorem mi(c:Int)(a b:aH)(o:bY a.n)(p:bY b.n)(l:World):Calls prog 154 #[.int .i64 c,a.v,b.v] l λi B=>i=.returned (eJ c a b).v/\Bw l B:=by
 have f:=H (sU c a.n b.n o p);clear o p;rw[a.open_,b.open_];rcases dp (a.k == 1) with d|d<;>rcases dp (b.k == 1) with e|e
 .have r:(a.k != 1)=false:=by simpa using d
  have s:(b.k != 1)=false:=by simpa using e
  have g:eJ c a b=Cj (dA c a.n b.n):=by simp[eJ,d,e]
  rw[g]
  clear g
  cases k:dA c a.n b.n with
  | none=>
   rw[k] at f
   clear k
   go_enter func154,ntmps154
   go_wp2_with (go_at_call 190;refine(U f _).mono ?_;rintro i u ⟨⟨t,rfl,q⟩,j⟩;obtain⟨m,n⟩:=cO j;simp only[Option.isSome])
   refine bs (v:=aH.null.v) (by simp[results,results154,go_sem,aH.v,aH.null,m,n]) rfl ⟨rfl,?_⟩
   (repeat (first|exact VS|refine Below.alloc ?_ (by simp<;>omega) _|refine Below.setCell ?_ (by simp<;>omega) _|refine Below.trans ?_ (Below.mono (by assumption) (by first|omega | (simp;omega)))))
  | some A=>
   rw[k] at f
   clear k
   go_enter func154,ntmps154
   go_wp2_with (first
    | (go_at_call 190;refine(U f _).mono ?_;rintro i u ⟨⟨t,rfl,q⟩,j⟩;obtain⟨m,n⟩:=cO j;obtain rfl:=q A rfl;simp only[Option.isSome];have z:l.heap.size+1+1<u.heap.size:=by have:=j.size;(try simp at this);omega)
    | (go_at_call 92;refine(jl _ _).mono ?_;rintro i C ⟨rfl,w⟩;obtain⟨x,y⟩:=cO w;rw[aH.open_]))
   refine bs (v:=(aH.num t).v) (by simp[results,results154,go_sem,aH.v,aH.num,m,n,x,y,z]) rfl ⟨rfl,?_⟩
   (repeat (first|exact VS|refine Below.alloc ?_ (by simp<;>omega) _|refine Below.setCell ?_ (by simp<;>omega) _|refine Below.trans ?_ (Below.mono (by assumption) (by first|omega | (simp;omega)))))
 all_goals(have g:eJ c a b=aH.null:=by simp[eJ,d,e]);rw[g];clear g f;(try (have r:(a.k != 1)=false:=by simpa using d));(try (have r:(a.k != 1)=true:=by simpa using d));(try (have s:(b.k != 1)=false:=by simpa using e));(try (have s:(b.k != 1)=true:=by simpa using e));go_enter func154,ntmps154;go_wp2;refine bs (v:=aH.null.v) (by simp[results,results154,go_sem,aH.v,aH.null]) rfl ⟨rfl,?_⟩;(repeat (first|exact VS|refine Below.alloc ?_ (by simp<;>omega) _|refine Below.setCell ?_ (by simp<;>omega) _))
end Go.Proofs.YtklgoolblpmmlaaGreat

import Derived.Test.YtklgoolblpmmlaaGreatStA
import Derived.Test.YtklgoolblpmmlaaGreatOwnA
import Derived.Maps.AppendAt
import Derived.Deep.AppendLies
import Derived.Laws.AppendOwnNone
set_option linter.all false
namespace Go.Proofs.YtklgoolblpmmlaaGreat
open Go.RowKit Go.Sort Go.Proofs.Tryz
def c3(x:aH):List Value:=[.int .i64 x.k,.int .i64 x.n,.string x.s]
def dx(c:World)(base:Nat)(b:Value)(a:List aH):Prop:=c.ownsRow base 43 3 b a.length (a.flatMap c3)
variable{w:World}{v:Value}{x y:List aH}{k m n:Nat}
theorem dx.aa{w1:World}{base:Nat}(h:dx w base v x)(a:Bw w w1):dx w1 base v x:=hz h a
theorem d2:∀(d:List aH) (c a:Nat) (b:aH),d[c]?=some b->a<3->(d.flatMap c3)[c*3+a]?=(c3 b)[a]?
 | [],c,a,b,h,_=>by simp at h
 | g::d,0,a,b,h,e=>by simp at h;subst h;rw[eA,eK (by simp[c3];omega)];simp
 | g::d,c+1,a,b,h,e=>by have f:=d2 d c a b (by simpa using h) e;rw[eA,ez (by simp[c3];omega)];rw[<-f];congr 1;simp[c3];omega
theorem fY(a:List aH):(a.flatMap c3).length=a.length*3:=by
 induction a with
 | nil=>rfl
 | cons c a b=>rw[eA,bG,b];simp[c3];omega
theorem C5(c:aH):∀b∈c3 c,b.oneCell'=true:=by intro b a;simp[c3] at a;rcases a with rfl|rfl|rfl<;>rfl
theorem zF(e:List aH):∀a∈e.flatMap c3,a.oneCell'=true:=by intro a b;obtain⟨d,_,c⟩:=List.mem_flatMap.1 b;exact C5 d a c
theorem om(h:bX w (some ⟨n,m,none⟩) x):∀a f,(x.flatMap c3)[a]?=some f->w.cell? ((⟨n,m,none⟩:Addr).add a)=some f:=by
 intro a f g;rw[Addr.add_lit];have q:a<x.length*3:=by rw[<-fY];exact(bD g).1
 obtain⟨d,i⟩:∃d,x[a / 3]?=some d:=⟨_,VR (by omega)⟩;have c:=d2 x (a / 3) (a % 3) d i (by omega);rw[show a / 3*3+a % 3=a by omega,g] at c;rcases h with h|⟨r,s,e,h⟩;.subst h;simp at q
 .injection e with e;injection e with j k;subst j k;obtain⟨l,o,p⟩:=h (a / 3) d i;(have b:a % 3=0∨a % 3=1∨a % 3=2:=by omega);rcases b with b|b|b<;>rw[b] at c<;>simp[c3] at c<;>subst c;(.rw[show m+a=m+a / 3*3 by omega];exact l);(.rw[show m+a=m+a / 3*3+1 by omega];exact o);.rw[show m+a=m+a / 3*3+2 by omega];exact p
theorem rS:∀(c:List aH) (a:Nat) (b:aH),a<c.length->(((c.flatMap c3).set (a*3) (.int .i64 b.k)).set (a*3+1) (.int .i64 b.n)).set (a*3+2) (.string b.s)=(c.set a b).flatMap c3
 | [],a,b,h=>by simp at h
 | e::c,0,b,_=>by simp[c3]
 | e::c,a+1,b,h=>by have d:=rS c a b (by simpa using h);rw[List.set_cons_succ,eA,eA,<-d];simp only[c3,eL,dK];rw[show (a+1)*3=a*3+1+1+1 by omega,show a*3+1+1+1+1=(a*3+1)+1+1+1 by omega,show a*3+1+1+1+2=(a*3+2)+1+1+1 by omega];simp only[List.set_cons_succ]
theorem dx.put{base N:Nat}(h:dx w base (.slice (some ⟨n,0,none⟩) N m) y)(f:k<y.length)(x:aH):dx (((w.setCell ⟨n,k*3,none⟩ (.int .i64 x.k)).setCell ⟨n,k*3+1,none⟩ (.int .i64 x.n)).setCell ⟨n,k*3+2,none⟩ (.string x.s)) base (.slice (some ⟨n,0,none⟩) N m) (y.set k x):=by
 have e:N=y.length:=by(rcases h.2 with ⟨a,_⟩|⟨j,g,i,a,_⟩);(.cases a);.injection a
 subst e;have c:=(World.ownsRow.stored h (k*3) (.int .i64 x.k)).1;have d:=(World.ownsRow.stored c (k*3+1) (.int .i64 x.n)).1;have b:=(World.ownsRow.stored d (k*3+2) (.string x.s)).1;rw[rS y k x f] at b;unfold dx;rw[List.length_set];exact b
theorem dx.len{base N:Nat}(h:dx w base (.slice (some ⟨n,0,none⟩) N m) x):N=x.length:=by
 rcases h.2 with ⟨a,_⟩|⟨d,b,c,a,_⟩
 .cases a
 .injection a
theorem dx.facts{base N:Nat}{x:aH}(h:dx w base (.slice (some ⟨n,0,none⟩) N m) y)(a:y[k]?=some x):w.cell? ⟨n,k*3,none⟩=some (.int .i64 x.k)/\w.cell? ⟨n,k*3+1,none⟩=some (.int .i64 x.n)/\w.cell? ⟨n,k*3+2,none⟩=some (.string x.s)/\w.frozen? ⟨n,k*3,none⟩=false/\w.frozen? ⟨n,k*3+1,none⟩=false/\w.frozen? ⟨n,k*3+2,none⟩=false:=by
 have b:=h.len;subst b;have c:=(bD a).1;refine⟨?_,?_,?_,World.ownsRow.frozenAt h _,World.ownsRow.frozenAt h _,World.ownsRow.frozenAt h _⟩;.rw[World.ownsRow.cellAt h (k*3) (by omega)];exact d2 y k 0 x a (by omega)
 .rw[World.ownsRow.cellAt h (k*3+1) (by omega)];exact d2 y k 1 x a (by omega)
 .rw[World.ownsRow.cellAt h (k*3+2) (by omega)];exact d2 y k 2 x a (by omega)
theorem CB:(Tryz.prog.info? 43).map (λa=>(a.zero,a.size,a.bytes))=some (some (.agg #[.int .i64 0,.int .i64 0,.string ⟨#[]⟩]),3,32):=by kernel_rfl
theorem AI{base:Nat}(h:dx w base v x):∀a,v.ownBlock=some a->base<=a:=by
 intro a b;rcases h.2 with ⟨rfl,_⟩|⟨e,c,d,rfl,f,_⟩
 .cases b
 .simp[Value.ownBlock] at b;omega
theorem map_take{α c:Type}(a:α->c){b:List α}{x:α}(h:b[n]?=some x):(b.take (n+1)).map a=(b.take n).map a++[a x]:=by rw[List.take_add_one,h,ep];rfl
end Go.Proofs.YtklgoolblpmmlaaGreat

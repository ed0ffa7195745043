import Derived.Test.YtabmgpillccfaaaGreatDoorAnyG
import Derived.Test.YtabmgpillccfaaaGreatDoorEsOpen
import Derived.Test.YtabmgpillccfaaaGreatDoorOwnA
import Derived.Maps.AppendAt
import Derived.Laws.AppendOwnNone
import Derived.Lib.SliceRun
import Derived.Laws.EntriesVeiled
set_option linter.all false
set_option maxRecDepth 100000
namespace Go.Proofs.YtabmgpillccfaaaGreatDoor
open Go.RowKit Go.Sort Go.Proofs.Tryz
mutual
def Ex.high:Ex->Nat
 | .mk _ _ _ a=>Ex.aB a+1
def Ex.aB:List Ex->Nat
 | []=>0
 | a::b=>max a.high (Ex.aB b)
end
mutual
theorem kh:∀(a:Ex) (c b:Int),gE a->(a.size:Int)<=c->(a.high:Int)<=b->ct bd a c b=((a.size:Int),(a.high:Int),true)
 | .mk l k m e,c,b,i,f,g=>by rw[Ex.size] at f;rw[Ex.high] at g;obtain⟨d,j⟩:=kt i;have d:bd (.mk l k m e)=true:=d;rw[ct,d,aL (by simp only[Bool.or_eq_true,eK,Bool.not_true,not_or];exact⟨⟨by omega,by omega⟩,by simp⟩)];rw[jn e c b 1 0 j (by omega) (by omega) (by omega) (by omega)];simp only[Prod.mk.injEq,and_true];rw[Ex.size,Ex.high];constructor;(.omega);.omega
theorem jn:∀(a:List Ex) (d c b h:Int),fN a->0<=b->0<=h->b+(Ex.sizes a:Int)<=d->(Ex.aB a:Int)<=c-1->cj bd a d c b h=some (b+(Ex.sizes a:Int),max h (Ex.aB a:Int))
 | [],d,c,b,h,_,_,j,_,_=>by rw[cj,Ex.sizes,Ex.aB];simp only[Option.some.injEq,Prod.mk.injEq];constructor<;>omega
 | f::a,d,c,b,h,e,k,j,g,i=>by rw[fN] at e;rw[Ex.sizes] at g;rw[Ex.aB] at i;rw[cj,kh f (d-b) (c-1) e.1 (by omega) (by omega)];simp only[if_true];rw[jn a d c _ _ e.2 (by omega) (by omega) (by omega) (by omega),Ex.sizes,Ex.aB];simp only[Option.some.injEq,Prod.mk.injEq];constructor<;>omega
end
mutual
theorem n6:∀(e:Ex) (c b:Int) {d h:Int},ct bd e c b=(d,h,true)->d=(e.size:Int)/\h=(e.high:Int)
 | .mk m l n i,c,b,d,h,a=>by
  rw[ct] at a;split at a;.injection a with _ a;injection a with _ a;cases a
  .cases f:cj bd i c b 1 0 with
   | none=>rw[f] at a;simp only at a;injection a with _ a;injection a with _ a;cases a
   | some j=>
    rw[f] at a
    simp only at a
    injection a with k g
    injection g with g _
    have:=l4 i c b 1 0 (c':=j.1) (h':=j.2) f
    rw[Ex.size,Ex.high]
    omega
theorem l4:∀(e:List Ex) (c b d h:Int) {c' h':Int},cj bd e c b d h=some (c',h')->c'=d+(Ex.sizes e:Int)/\(0<=h->h'=max h (Ex.aB e:Int))
 | [],c,b,d,h,c',h',a=>by rw[cj] at a;injection a with a;injection a with m n;rw[Ex.sizes,Ex.aB];constructor;(.omega);.intro k;omega
 | i::e,c,b,d,h,c',h',a=>by rw[cj] at a;split at a;(.rename_i f;obtain⟨g,p,ok,j⟩:∃g l ok,ct bd i (c-d) (b-1)=(g,l,ok):=⟨_,_,_,rfl⟩;rw[j] at a f;simp only at a f;subst f;have o:=n6 i (c-d) (b-1) j;have:=l4 e c b _ _ a;rw[Ex.sizes,Ex.aB];constructor;(.omega);.intro k;have:=this.2 (by omega);omega);.cases a
end
variable{e:Ex}{W w:World}{v:Value}{C:List Int}{a:Option Addr}{m n:Nat}
theorem hn(h:b0 e=true):ct bd e 400 40=((e.size:Int),(e.high:Int),true):=by obtain⟨c,a,ok,b⟩:∃c a ok,ct bd e 400 40=(c,a,ok):=⟨_,_,_,rfl⟩;unfold b0 at h;rw[b] at h;simp only at h;subst h;obtain⟨d,a⟩:=n6 e 400 40 b;rw[b,d,a]
theorem q8(a:gE e)(b:e.size<=400)(c:e.high<=40):b0 e=true:=by unfold b0;rw[kh e 400 40 a (by omega) (by omega)]
theorem h0(h:b0 e=true):e.size<=400/\e.high<=40:=by have:=gU bd e 400 40 (hn h);omega
def cq(a:Ex):Int×Int:=if b0 a then ((a.size:Int),(a.high:Int)) else (401,41)
theorem sT:(Tryz.prog.info? 3).map (λa=>(a.zero,a.size,a.bytes))=some (some (.int .i64 0),1,8):=by kernel_rfl
def et(c:World)(base:Nat)(b:Value)(a:List Int):Prop:=c.ownsRow base 3 1 b a.length (a.map (.int .i64))
theorem et.aa{base:Nat}(h:et w base v C)(a:Bw w W):et W base v C:=gR h a
theorem et.slice{base:Nat}(h:et w base v C):∃b a,v=.slice b C.length a:=by
 rcases h.2 with ⟨rfl,c⟩|⟨e,a,d,rfl,_⟩
 .have:C=[]:=eV c;subst this;exact⟨none,0,rfl⟩
 .exact⟨_,a,rfl⟩
theorem et.ints{base:Nat}(h:et w base (.slice a n m) C):bC w a C:=by
 rcases h.2 with ⟨d,j⟩|⟨c,o,p,d,_⟩
 .have:C=[]:=eV j;exact .inl this
 .injection d with f q g;subst f;refine .inr ⟨c,0,rfl,λb l k=>?_⟩;subst g;have e:=World.ownsRow.cells h rfl b (.int .i64 l) (by rw[b8,k];rfl);(have i:(⟨c,0,none⟩:Addr).add b=⟨c,0+b,none⟩:=by by_cases h:b=0<;>simp[Addr.add,h]);rw[i] at e;exact e
theorem qF(c:List Int):∀a∈c.map (Value.int .i64),a.oneCell'=true:=by intro a b;obtain⟨d,_,rfl⟩:=fB b;rfl
theorem sj{base:Nat}(h:et w base v C):∀a,v.ownBlock=some a->base<=a:=by
 intro a b;rcases h.2 with ⟨rfl,_⟩|⟨e,c,d,rfl,f,_⟩
 .cases b
 .simp[Value.ownBlock] at b;omega
theorem rA(a:World)(base:Nat):et a base (.slice none 0 0) []:=World.ownsRow_nil _ _ _ _
theorem nb(a:World)(base:Nat)(c:base<=a.heap.size)(b:Int):et (a.alloc (.cells #[.int .i64 b] 3)) base (.slice (some ⟨a.heap.size,0,none⟩) 1 1) [b]:=
 ⟨rfl,.inr ⟨a.heap.size,1,_,rfl,c,Go.Deep.blk_alloc_new _ _,aV,by unfold maxLen;omega,rfl,rfl⟩⟩
theorem hp{e:Program}{c:Array Oper}{f:Exit->Act->World->Prop}{b:Oper}{j:List Oper}{a:Act}{d:Act->World->Prop}(g:c.toList.drop n=b::j)(i:Region.wanted b (yielded c a.tmps)=false) (h:d (a.put b.dst undef) w):wpOp e c f n d a w:=by unfold wpOp;rw[k6 g];simp only[i,Bool.false_eq_true,if_false];exact h
mutual
def gs:Ex->Int->Int->Int×Int×Bool
 | .mk e d f c,b,a=>if decide (400<b) || decide (40<a) then (b+1,a,false) else if (gj c (b+1) a a).2.2 then ((gj c (b+1) a a).1,(gj c (b+1) a a).2.1,bd (.mk e d f c)) else ((gj c (b+1) a a).1,(gj c (b+1) a a).2.1,false)
def gj:List Ex->Int->Int->Int->Int×Int×Bool
 | [],a,_,d=>(a,d,true)
 | c::e,a,b,d=>if (gs c a (b+1)).2.2 then gj e (gs c a (b+1)).1 b (max d (gs c a (b+1)).2.1) else ((gs c a (b+1)).1,max d (gs c a (b+1)).2.1,false)
end
theorem qg(c:Ex)(b a:Int):gs c b a=if decide (400<b) || decide (40<a) then (b+1,a,false) else if (gj c.args (b+1) a a).2.2 then ((gj c.args (b+1) a a).1,(gj c.args (b+1) a a).2.1,bd c) else ((gj c.args (b+1) a a).1,(gj c.args (b+1) a a).2.1,false):=by cases c;rw[gs];rfl
mutual
theorem kK:∀(c:Ex) (b a:Int),(gs c b a).2.2=true->gE c/\(gs c b a).1=b+c.size/\(gs c b a).2.1=a+c.high-1/\(gs c b a).1<=401/\b<=400
 | .mk m l n f,b,a,h=>by rw[gs] at h ⊢;by_cases d:(decide (400<b) || decide (40<a))=true;(.rw[aR d] at h;cases h);.rw[aL d] at h ⊢;simp only[Bool.or_eq_true,eK,not_or] at d;by_cases e:(gj f (b+1) a a).2.2=true;(.rw[aR e] at h ⊢;simp only at h ⊢;obtain⟨g,j,k,i⟩:=nP f (b+1) a a (Int.le_refl _) e;rw[gE,Ex.size,Ex.high];exact⟨⟨h,g⟩,by omega,by omega,i (by omega),by omega⟩);.rw[aL e] at h;cases h
theorem nP:∀(c:List Ex) (b a d:Int),a<=d->(gj c b a d).2.2=true->fN c/\(gj c b a d).1=b+Ex.sizes c/\(gj c b a d).2.1=max d (a+Ex.aB c)/\(b<=401->(gj c b a d).1<=401)
 | [],b,a,d,j,h=>by rw[gj,fN,Ex.sizes,Ex.aB];exact⟨trivial,by omega,by simp only;omega,λh=>h⟩
 | f::c,b,a,d,j,h=>by rw[gj] at h ⊢;by_cases e:(gs f b (a+1)).2.2=true;(.rw[aR e] at h ⊢;obtain⟨g,m,n,i,o⟩:=kK f b (a+1) e;obtain⟨k,p,q,l⟩:=nP c _ a _ (by omega) h;rw[fN,Ex.sizes,Ex.aB];exact⟨⟨g,k⟩,by omega,by omega,λ_=>l i⟩);.rw[aL e] at h;cases h
end
mutual
theorem nO:∀(b:Ex) (c a:Int),gE b->c+b.size<=401->a+b.high<=41->gs b c a=(c+b.size,a+b.high-1,true)
 | .mk m l n e,c,a,i,f,g=>by rw[Ex.size] at f;rw[Ex.high] at g;obtain⟨d,j⟩:=kt i;have d:bd (.mk m l n e)=true:=d;have k:=lA e (c+1) a a j (by omega) (by omega) (Int.le_refl _);rw[gs,aL (by simp only[Bool.or_eq_true,eK,not_or];omega),k];simp only[if_true];rw[d,Ex.size,Ex.high];simp only[Prod.mk.injEq,and_true];constructor<;>omega
theorem lA:∀(b:List Ex) (c a d:Int),fN b->c+Ex.sizes b<=401->a+Ex.aB b<=40->a<=d->gj b c a d=(c+Ex.sizes b,max d (a+Ex.aB b),true)
 | [],c,a,d,_,_,_,j=>by rw[gj,Ex.sizes,Ex.aB];simp only[Prod.mk.injEq,and_true];constructor<;>omega
 | f::b,c,a,d,e,g,i,j=>by rw[fN] at e;rw[Ex.sizes] at g;rw[Ex.aB] at i;rw[gj,nO f c (a+1) e.1 (by omega) (by omega)];simp only[if_true];rw[lA b _ a _ e.2 (by omega) (by omega) (by omega),Ex.sizes,Ex.aB];simp only[Prod.mk.injEq,and_true];constructor<;>omega
end
mutual
theorem lz:∀(c:Ex) (b a:Int),0<=b->b<=401->1<=a->a<=41->0<=(gs c b a).1/\(gs c b a).1<=402/\1<=(gs c b a).2.1/\(gs c b a).2.1<=41
 | .mk l k m f,b,a,g,i,e,j=>by rw[gs];by_cases d:(decide (400<b) || decide (40<a))=true;(.rw[aR d];simp only;omega);.rw[aL d];simp only[Bool.or_eq_true,eK,not_or] at d;have:=j7 f (b+1) a a (by omega) (by omega) e (by omega) (by omega) (by omega);split<;>simp only<;>omega
theorem j7:∀(d:List Ex) (b a c:Int),0<=b->b<=401->1<=a->a<=40->1<=c->c<=41->0<=(gj d b a c).1/\(gj d b a c).1<=402/\1<=(gj d b a c).2.1/\(gj d b a c).2.1<=41
 | [],b,a,c,f,g,i,j,k,l=>by rw[gj];simp only;omega
 | e::d,b,a,c,f,g,i,j,k,l=>by have n:=lz e b (a+1) f g (by omega) (by omega);rw[gj];split;(.rename_i m;have o:=(kK e b (a+1) m).2.2.2.1;exact j7 d _ a _ (by omega) (by omega) i j (by omega) (by omega));.simp only;omega
end
theorem rs(a:Ex):(if !(gs a 0 1).2.2 || decide (400<(gs a 0 1).1) || decide (40<(gs a 0 1).2.1) then ((401:Int),(41:Int)) else ((gs a 0 1).1,(gs a 0 1).2.1))=cq a:=by
 cases b:b0 a with
 | true=>have f:=nH b;have l:=h0 b;rw[nO a 0 1 f (by omega) (by omega)];unfold cq;rw[aR b,aL (by simp;omega)];simp only[Prod.mk.injEq];constructor<;>omega
 | false=>unfold cq;rw[b];by_cases c:(!(gs a 0 1).2.2 || decide (400<(gs a 0 1).1) || decide (40<(gs a 0 1).2.1))=true;(.rw[aR c];rfl);.exfalso;simp only[Bool.or_eq_true,eK,not_or,Bool.not_eq_true',Bool.not_eq_false] at c;obtain⟨⟨d,g⟩,i⟩:=c;obtain⟨e,j,k,_⟩:=kK a 0 1 d;rw[q8 e (by omega) (by omega)] at b;cases b
theorem mJ(a:Ex):decide ((cq a).1<=400)=b0 a:=by
 unfold cq;cases b:b0 a with
 | true=>have:=(h0 b).1;simp only[if_true];simpa using(by omega:(a.size:Int)<=400)
 | false=>rfl
end Go.Proofs.YtabmgpillccfaaaGreatDoor

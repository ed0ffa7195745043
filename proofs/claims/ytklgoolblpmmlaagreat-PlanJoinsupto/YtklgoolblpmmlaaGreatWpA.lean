import Derived.Test.YtklgoolblpmmlaaGreatWnA
import Derived.Maps.OwnSet
set_option linter.all false
namespace Go.Proofs.YtklgoolblpmmlaaGreat
open Go.RowKit Go.Sort Go.Lib Go.Proofs.Tryz
def nB(cols:List Int)(c:List (List aH×List (List aH)))(a:List aH):List (List aH×List (List aH)):=
 if eC a cols∈c.map (·.1) then c.map λb=>if b.1=eC a cols then (b.1,b.2++[a]) else b else c++[(eC a cols,[a])]
def df(a:List (List aH×List (List aH)))(cols:List Int)(b:List (List aH)):List (List aH×List (List aH)):=b.foldl (nB cols) a
theorem fS(a:List (List aH×List (List aH)))(cols:List Int)(c:List (List aH))(b:List aH):df a cols (c++[b])=nB cols (df a cols c) b:=by simp[df]
theorem pg(cols:List Int)(a:List (List aH×List (List aH)))(b:List aH):(nB cols a b).map (·.1)=if eC b cols∈a.map (·.1) then a.map (·.1) else a.map (·.1)++[eC b cols]:=by
 unfold nB;split;.rw[List.map_map];refine List.map_congr_left λc _=>?_;simp only[Function.comp];split<;>rfl
 .simp
theorem gy{l0:List (List aH×List (List aH))}(d:(l0.map (·.1)).Nodup)(cols:List Int)(a:List (List aH)):((df l0 cols a).map (·.1)).Nodup:=by
 refine gL (P:=λa=>((df l0 cols a).map (·.1)).Nodup) d (λa i c=>?_) a;rw[fS,pg];split;.exact c
 .rename_i h;exact List.nodup_append.2 ⟨c,by simp,λf e g b=>by simp at b;subst b;rintro rfl;exact h e⟩
theorem gq{i:List (List aH×List (List aH))}(cols:List Int)(e:List (List aH))(f:List aH):f∈(df i cols e).map (·.1) ↔ f∈i.map (·.1)∨∃g∈e,eC g cols=f:=by
 refine gL (P:=λe=>f∈(df i cols e).map (·.1) ↔ f∈i.map (·.1)∨∃g∈e,eC g cols=f) (by simp[df]) (λe g j=>?_) e;rw[fS,pg];split;.rename_i h;rw[j];constructor;(.rintro(b|⟨d,a,c⟩);(.exact .inl b);.exact .inr ⟨d,by simp[a],c⟩);.rintro(b|⟨d,a,c⟩);(.exact .inl b);.rcases cM a with a|a;(.exact .inr ⟨d,a,c⟩);.simp at a;subst a;subst c;exact j.1 h
 .rw[List.mem_append,j];constructor;(.rintro((b|⟨d,a,c⟩)|b);(.exact .inl b);(.exact .inr ⟨d,by simp[a],c⟩);.simp at b;exact .inr ⟨g,by simp,b.symm⟩);.rintro(b|⟨d,a,c⟩);(.exact .inl (.inl b));.rcases cM a with a|a;(.exact .inl (.inr ⟨d,a,c⟩));.simp at a;subst a;exact .inr (by simp[c])
theorem fh{l0:List (List aH×List (List aH))}(l:∀b∈l0,b.2=[])(cols:List Int)(d:List (List aH)):∀b∈df l0 cols d,b.2=d.filter λe=>decide (eC e cols=b.1):=by
 refine gL (P:=λd=>∀b∈df l0 cols d,b.2=d.filter λe=>decide (eC e cols=b.1)) (λb a=>by simpa using l b a) (λd e f b a=>?_) d;rw[fS] at a;rw[List.filter_append];unfold nB at a;split at a;.obtain⟨g,j,c⟩:=b6 a;split at c;(.rename_i h;subst c;simp only;rw[f g j];simp[h]);.rename_i h;subst c;rw[f g j];have:¬eC e cols=g.1:=λc=>h c.symm;simp[this]
 .rename_i h;rcases cM a with a|a;(.rw[f b a];have:¬eC e cols=b.1:=λc=>h (c ▸ fA a);simp[this]);.simp at a;subst a;(have k:d.filter (λi=>decide (eC i cols=eC e cols))=[]:=by rw[List.filter_eq_nil_iff];intro i m;simp only[cF];intro c;exact h ((gq cols d _).2 (.inr ⟨i,m,c⟩)));simp[k]
theorem AC(cols:List Int)(c:List (List aH)):((df [] cols c).map λa=>a.2.length).sum=c.length:=by
 refine gL (P:=λc=>((df [] cols c).map λa=>a.2.length).sum=c.length) rfl (λc e l=>?_) c;have j:=gy (l0:=[]) List.nodup_nil cols c;rw[fS,bG,<-l];unfold nB;split
 .rename_i h
  have key:∀b:List (List aH×List (List aH)),(b.map (·.1)).Nodup->eC e cols∈b.map (·.1)->((b.map λa=>if a.1=eC e cols then (a.1,a.2++[e]) else a).map λa=>a.2.length).sum=(b.map λa=>a.2.length).sum+1:=by
   intro b
   induction b with
   | nil=>intro _ h;simp at h
   | cons a b m=>
    intro g d
    simp only[dX,List.nodup_cons] at g
    simp only[dX,List.sum_cons]
    by_cases f:a.1=eC e cols
    .rw[ba f]
     have:(b.map λa=>if a.1=eC e cols then (a.1,a.2++[e]) else a)=b:=by
      conv=>rhs;rw[<-List.map_id b]
      refine List.map_congr_left λn k=>?_
      rw[VU (λi=>g.1 (by rw[f,<-i];exact fA k))]
      rfl
     rw[this]
     simp
     omega
    .rw[VU f]
     have:=m g.2 (by
      simp only[dX,List.mem_cons] at d
      rcases d with d|d
      .exact absurd d.symm f
      .exact d)
     omega
  exact key _ j h
 .simp
theorem hy(b:List (List aH×List (List aH)))(cols:List Int)(a:List (List aH)):(df b cols a).length<=b.length+a.length:=by
 refine gL (P:=λa=>(df b cols a).length<=b.length+a.length) (by simp[df]) (λa d c=>?_) a;rw[fS,bG];unfold nB;split;.simp;omega
 .simp;omega
variable{x:List aH}{k m n:Nat}{W w:World}{v:Value}{r:List (List aH)}{D N:List Value}{Q:Nat->Prop}
theorem nx{cols:List Int}(c:dH n x):∀b∈eC x cols,eO b:=λb a=>by
 unfold eC at a
 obtain⟨d,_,rfl⟩:=b6 a
 rw[cQ]
 rcases h:x[d.toNat]? with _|e
 .exact⟨⟨by decide,by decide⟩,by decide,rfl⟩
 .exact c.val e (VQ h)
def nE(g:World)(e f:Nat)(c:List ByteArray):Prop:=∃b:DataW Unit,g.ownsMap prog 9 (plainElem prog 3) e f b/\Maps.IsMap b/\(∀a,Maps.has b (cJ.l a)=true ↔ a∈c)/\(∀(d:Nat) a,c[d]?=some a->b.atKey (cJ.l a) (.lit (.int .i64 0))=.lit (.int .i64 (d:Int)))/\∀a,¬a∈c->b.atKey (cJ.l a) (.lit (.int .i64 0))=.lit (.int .i64 0)
theorem nE.made(a:World):nE (a.alloc (.map #[] 0)) a.heap.size 0 []:=⟨.map [],World.ownsMap_made a prog 9 _,⟨[],rfl⟩,λb=>by simp[Maps.has_eq],λc b h=>by simp at h,λb _=>rfl⟩
theorem nE.lt{a:List ByteArray}(h:nE w n m a):n<w.heap.size:=by obtain⟨b,h,_⟩:=h;exact h.lt
theorem nE.ky{G:Nat->Prop}{a:List ByteArray}(h:nE w n m a)(i:Ky G w W)(k:¬G n):nE W n m a:=by have j:=h.lt;obtain⟨b,⟨d,c,e,f⟩,g⟩:=h;exact⟨b,⟨d,c,by rw[i.block n j k];exact e,f⟩,g⟩
theorem nE.there{a:List ByteArray}(h:nE w n m a){x:ByteArray}(j:cJ.ok x)(d:a[k]?=some x):(Instr.lookup 50 (.map (some n)) (.string x) true).run prog w=.ok (.tuple #[.int .i64 (k:Int),.bool true]) w:=by obtain⟨l,f,p,g,i,q⟩:=h;obtain⟨s,r,e,b⟩:=f.look_ok cJ.K underlying50 (uh w) (plainElem_int underlying3 (by decide)) (cJ.key x j);rw[i k x d] at b;obtain⟨o,rfl,c,_⟩:=plainElem_int_inv underlying3 b;simp only[Prod.mk.injEq,DataW.lit.injEq,Lit.int.injEq,true_and] at c;rw[(g x).2 (VQ d),<-c.1] at e;exact e
theorem nE.not{b:List ByteArray}(h:nE w n m b){x:ByteArray}(o:cJ.ok x)(e:¬x∈b):(Instr.lookup 50 (.map (some n)) (.string x) true).run prog w=.ok (.tuple #[.int .i64 0,.bool false]) w:=by
 obtain⟨a,i,q,j,r,k⟩:=h;obtain⟨t,s,f,c⟩:=i.look_ok cJ.K underlying50 (uh w) (plainElem_int underlying3 (by decide)) (cJ.key x o);rw[k x e] at c;have l:Maps.has a (cJ.l x)=false:=by cases g:Maps.has a (cJ.l x);(.rfl);.exact absurd ((j x).1 g) e
 obtain⟨p,rfl,d,_⟩:=plainElem_int_inv underlying3 c;simp only[Prod.mk.injEq,DataW.lit.injEq,Lit.int.injEq,true_and] at d;rw[l,<-d.1] at f;exact f
theorem nE.put{b:List ByteArray}(h:nE w n m b)(z:m<=140737488355328)(y:b.length<=140737488355328){x:ByteArray}(s:cJ.ok x)(p:¬x∈b):∃e,(Instr.mapUpdate 50 (.map (some n)) (.string x) (.int .i64 (b.length:Int))).run prog w=.ok () e/\nE e n (m+1) (b++[x])/\w.grownBy e (some n):=by
 obtain⟨u,i,g,j,k,l⟩:=h;obtain⟨e,r,q,o⟩:=i.update cJ.K underlying50 (by unfold maxLen;omega) (cJ.key x s) (plainElem_int underlying3 (z8 (x:=(b.length:Int)) ⟨by omega,by omega⟩));refine⟨e,r,⟨_,q,?_,λc=>?_,λt c a=>?_,λc a=>?_⟩,o⟩;.obtain⟨v,rfl⟩:=g;exact⟨_,rfl⟩
 .by_cases f:c=x;(.subst f;simp[Maps.has_put_same g (cJ.isk _)]);.rw[Maps.has_put_other (λd=>f (cJ.inj _ _ d)),j c];simp[f]
 .rcases de (vs:=b) a with a|⟨rfl,rfl⟩;(.rw[Maps.atKey_put_other (λd=>p (by rw[<-cJ.inj _ _ d];exact VQ a)),k t c a]);.rw[Maps.atKey_put_same g (cJ.isk _)]
 .simp only[List.mem_append,List.mem_singleton,not_or] at a;rw[Maps.atKey_put_other (λd=>a.2 (cJ.inj _ _ d)),l c a.1]
theorem fc{e:Array Oper}{rest:List Oper}{b:Oper}{a:Act}{c:Exit->Act->World->Prop}(k:b.guard=none)(d x:Operand)(f:TypeId)(m:b.op=Op.lookup f d x true)(g i:Value)(l:a.eval d=g)(o:a.eval x=i) (n:(Instr.lookup f g i true).run prog w=.ok v w) (h:wpList prog e c rest (a.put b.dst v) w):wpList prog e c (b::rest) a w:=by refine wpList_plain k λp j=>?_;unfold Oper.wp;simp[execOp,m,l,o,n,Result.andThen];exact j _ _ h
theorem mq{P:Nat->Prop}(h:dx w 0 v x)(k:∀c,v.ownBlock=some c->P c):qu P w v x:=by
 unfold dx at h;rcases h.2 with ⟨rfl,j⟩|⟨c,g,i,rfl,o,l,_⟩
 .have:x=[]:=dF j;subst this;exact⟨none,0,rfl,.inl rfl,λf m a=>(by cases a),λn a=>(by cases a)⟩
 .refine⟨_,g,rfl,.inr ⟨c,0,rfl,λb e d=>?_⟩,λf m a _=>?_,jv _ _⟩;(.have p:=(bD d).1;refine⟨?_,?_,?_⟩;(.rw[bI,World.ownsRow.cellAt h (b*3) (by omega)];exact d2 x b 0 e d (by omega));(.rw[bI,World.ownsRow.cellAt h (b*3+1) (by omega)];exact d2 x b 1 e d (by omega));.rw[bI,World.ownsRow.cellAt h (b*3+2) (by omega)];exact d2 x b 2 e d (by omega));.injection a with a;injection a with a;subst a;exact⟨k c rfl,i,_,l⟩
structure sy(w:World)(v:Value)(rs:List (List aH))(us:List Value):Prop where
 l:us.length=rs.length
 o:w.ownsRow 0 40 1 v rs.length us
 r:∀(i:Nat) (u:Value) (r:List aH),us[i]?=some u->rs[i]?=some r->dx w 0 u r
theorem sy.lsp{P:Nat->Prop}(h:sy w v r D)(e:∀a,v.ownBlock=some a->P a)(d:∀b∈D,∀a,b.ownBlock=some a->P a):fQ P w v r:=
 ⟨⟨D,h.l,h.o,λf b i c g=>mq (h.r f b i c g) (d b (VQ c))⟩,e⟩
theorem sy.nil(a:World):sy a (.slice none 0 0) [] []:=⟨rfl,World.ownsRow_nil _ _ _ _,λb d c h=>by simp at h⟩
theorem sy.ky{G:Nat->Prop}(h:sy w v r D)(c:Ky G w W)(f:∀a,v.ownBlock=some a->¬G a)(e:∀b∈D,∀a,b.ownBlock=some a->¬G a):sy W v r D:=
 ⟨h.l,bM h.o c f,λg b j d i=>bM (h.r g b j d i) c (e b (VQ d))⟩
theorem AH{base size:Nat}(h:w.ownsRow base n size v m D)(e:w.ownsRow base n size v m N):D=N:=by
 rcases h.2 with ⟨rfl,f⟩|⟨s,k,o,rfl,_,g,_,_,_,i⟩
 .subst f;have c:=h.1;have d:=e.1;rw[Nat.zero_mul] at c d;rw[dF c,dF d]
 ·(rcases e.2 with ⟨n,_⟩|⟨t,l,p,n,_,a,_,_,_,j⟩);(.cases n);.injection n with b q r;injection b with b;injection b with b;subst b;rw[g] at a;injection a with a;injection a with a _ _;subst a;rw[<-i,<-j]
theorem xN{P:Nat->Prop}{b:List (Int×Bool)}(d:sy w v r D)(B:∀a,v.ownBlock=some a->P a)(A:∀f∈D,∀a,f.ownBlock=some a->P a)(s:lK Q w b n)(x:eZ b m)(E:m<=64)(C:∀e∈r,dH m e)(z:r.length<=2147483648)(t:∀a,v.ownBlock=some a->¬Q a):Calls prog 26 #[v,.func (.func 220) #[] #[.pointer (some ⟨n,0,none⟩)]] w λj i=>j=.returned (.tuple #[])/\Ky (λG=>v.ownBlock=some G) w i/\∃c:List Value,c.Perm D/\sy i v (cj b r) c:=by
 refine(od (d.lsp B A) s x E C z t).mono ?_;rintro j i ⟨rfl,_,k,R,c,T,I,J,K,p⟩;have g:R=D:=AH J d.o;subst g;have o:(cj b r).length=r.length:=(cB b r).length_eq;refine⟨rfl,k,c,?_,I.trans o.symm,by rw[o];exact K,λS f e L M=>?_⟩;.have:=p.map Prod.fst;rw[List.map_fst_zip (by omega),List.map_fst_zip (by omega)] at this;exact this
 .have y:(f,e)∈c.zip (cj b r):=VQ (List.getElem?_zip_eq_some.2 ⟨L,M⟩);obtain⟨F,u⟩:=f9 (p.mem_iff.1 y);obtain⟨N,O⟩:=List.getElem?_zip_eq_some.1 u;have l:=d.r F f e N O;exact bM l k λa g q=>(br l g).ne (br d.o q) (by decide) rfl
end Go.Proofs.YtklgoolblpmmlaaGreat

import Derived.Test.YtabmgpillccfaaaGreatDoorTxS
import Derived.Test.YtabmgpillccfaaaGreatDoorCkA
set_option linter.all false
set_option maxHeartbeats 1000000
set_option maxRecDepth 100000
namespace Go.Proofs.YtabmgpillccfaaaGreatDoor
open Go.RowKit Go.Sort Go.Proofs.Tryz
theorem r5:ea=[[99,111,117,110,116,97,108,108],[99,111,117,110,116],[115,117,109],[108,101,97,115,116],[109,111,115,116],[99,111,117,110,116,101,97,99,104]]:=by kernel_rfl
theorem rn:d0=[[110,117,109,98,101,114],[114,97,110,107],[100,101,110,115,101],[115,117,109,111,118,101,114],[99,111,117,110,116,111,118,101,114],[97,104,101,97,100]]:=by kernel_rfl
theorem h4(a:World):Calls prog 43 #[] a λi f=>i=.returned (.slice (some ⟨a.heap.size,0,none⟩) 6 6)/\(∀d e,ea[d]?=some e->f.cell? ⟨a.heap.size,d,none⟩=some (.string (bs e)))/\Bw a f:=by have b:=VV (SL.lit a ea (by rw[fQ];omega)).cells;have c:=VV (ae (ar _ a) (.cells (ea.map λg=>Value.string (bs g)).toArray 9));rw[r5] at b c ⊢;go_enter func43,ntmps43;go_wp2;go_ret;exact⟨rfl,U b,U c⟩
theorem hr(a:World):Calls prog 46 #[] a λi f=>i=.returned (.slice (some ⟨a.heap.size,0,none⟩) 6 6)/\(∀d e,d0[d]?=some e->f.cell? ⟨a.heap.size,d,none⟩=some (.string (bs e)))/\Bw a f:=by have b:=VV (SL.lit a d0 (by rw[fE];omega)).cells;have c:=VV (ae (ar _ a) (.cells (d0.map λg=>Value.string (bs g)).toArray 9));rw[rn] at b c ⊢;go_enter func46,ntmps46;go_wp2;go_ret;exact⟨rfl,U b,U c⟩
def iN(a:Int×Int):Nt:=cY [bz (bs (VO ea a.1)),dS a.2]
def gp(a:List UInt8):Nt:=bz (bs a)
theorem kM(a:List UInt8):gQ (gp a)=a:=fW a
theorem rx(a:Int×Int):gQ (iN a)=VL a:=by unfold iN VL;rw[eX,bi,bi,List.map_nil,fW,hC]
def rG(a:Int)(l:ByteArray)(c:List Nt)(b:List Int)(d:List (Int×Bool))(f:List (Int×Int))(i g e k:Int):List Nt:=
 if a=1 then [bz l] else if a=2∨a=4∨a=5 then [c.headD (bz ⟨#[]⟩)] else if a=3 then [cY c]
 else if a=6 then [cO b,cY (f.map iN)] else if a=9 then [cR d,dS e,dS k]
 else if a=10 then [gp (VO d0 i),dS g,dS e,cO b,cR d]
 else if a=12 then [cY (b.map λj=>gp (VO bG j))] else []
mutual
def fo:Pl->Nt
 | .mk a l e d g b f c j k i=>cY (gp (VO aX a)::(rG a l (e.map fS) d g b f c j k++lT i))
def lT:List Pl->List Nt
 | []=>[]
 | b::a=>fo b::lT a
end
theorem lS:∀a:List Pl,lT a=a.map fo
 | []=>by rw[lT];rfl
 | b::a=>by rw[lT,lS a];rfl
theorem rv(l:Int)(d:ByteArray)(a:List Ex)(c:List Int)(i:List (Int×Bool))(b:List (Int×Int))(g f j k:Int):(rG l d (a.map fS) c i b g f j k).map gQ=ef l d (a.map eT) c i b g f j k:=by
 have o:(a.map fS).map gQ=a.map eT:=by rw[List.map_map];exact List.map_congr_left λe _=>mU e
 have n:(b.map iN).map gQ=b.map VL:=by rw[List.map_map];exact List.map_congr_left λe _=>rx e
 have q:(c.map λs=>gp (VO bG s)).map gQ=c.map (VO bG):=by rw[List.map_map];exact List.map_congr_left λe _=>kM _
 have r:gQ (bz d)=d.data.toList:=by rw[jc];rfl
 have p:gQ ((a.map fS).headD (bz ⟨#[]⟩))=(a.map eT).headD []:=by
  cases a with
  | nil=>rw[List.map_nil,List.map_nil];exact jc _
  | cons m t=>rw[bi,bi];exact mU m
 unfold rG ef;split;.rw[bi,List.map_nil,r]
 split;.rw[bi,List.map_nil,p]
 split;.rw[bi,List.map_nil,eX,o]
 split;.simp only[bi,List.map_nil,lE,eX,n]
 split;.simp only[bi,List.map_nil,lF,hC]
 split;.simp only[bi,List.map_nil,lF,hC,kM,lE]
 split;.simp only[bi,List.map_nil,eX,q]
 .rfl
mutual
theorem mT:∀a:Pl,gQ (fo a)=cX a
 | .mk l m f e i c g d j k b=>by rw[fo,cX,eX,bi,bX,rv,nR b,kM]
theorem nR:∀a:List Pl,(lT a).map gQ=ii a
 | []=>by rw[lT,ii];rfl
 | b::a=>by rw[lT,ii,bi,mT b,nR a]
end
theorem oJ(p:Pl)(o:p.fin)(e:Pm)(a:World)(t:dN a p e)(q:bS p=0->pQ p/\p.size<=400) (r:bS p=0->∀b,Bw a b->Calls prog 13 #[p.val e] b (h5 (fo p) b)):Calls prog 5 #[p.val e] a λk I=>k=.returned (.tuple #[.string (if bS p=0 then bs (cX p) else bs []),.int .i64 (bS p)])/\Bw a I:=by
 have u:=ae (ar _ a) (p.box e);have m:=VV (dL.new a p e);have i:=VV (dL.new a p e).load;have f:=VV u;have g:=VV (λ(b:World) (E:Bw a b)=>i7 p o e b (t.aa E));by_cases c:bS p=0
 .have n:=VV (r c);have s:=VV λ(w:Option Addr) (C:Nat) (b:World) (h:Nt.all b w (fo p).l)=>nj (fo p).size (fo p) aV (by rw[mT];have N:=nQ p (q c).1 o;have O:=(q c).2;omega) w C b h;rw[aR c,c];rw[c] at g;unfold Pl.box at m f i;rw[mT] at s;generalize F:fo p=L at n s;unfold h5 at n;rw[Pl.ad] at g n i ⊢;clear u t o q F r;go_enter func5,ntmps5
  go_wp2_with (first
   | (refine aH ?_ 28 (.tmp 1) rfl _ (by simp[Act.eval]) _ (U j) ?_;. simp[Region.wanted,yielded])
   | (refine aH ?_ 28 (.tmp 1) rfl _ (by simp[Act.eval]) _ (U i) ?_;. simp[Region.wanted,yielded])
   | (go_at_call 12;refine(U g _ (U f)).mono ?_;rintro k J ⟨rfl,d⟩;have l:=VV (ac (U f) d);have j:=VV ((U m).aa d).load;rw[Pl.ad] at j;clear d)
   | (go_at_call 13;refine(U n _ (U l)).mono ?_;rintro k K ⟨B,D,rfl,x,y⟩;have A:=VV (ac (U l) y);have v:=VV (U s B D K (Nt.aA _ x));rw[Nt.ad] at v ⊢;clear y x)
   | (go_at_call 14;refine(U v).mono ?_;rintro k P ⟨rfl,G⟩))
  go_ret2;exact⟨rfl,ac (U A) G⟩
 .rw[aL c];unfold bs;unfold Pl.box at m f i;rw[Pl.ad] at g i ⊢;clear u t o q r;obtain⟨M,z⟩:=al (bS p);rw[<-z] at g c ⊢;clear z;go_enter func5,ntmps5
  go_wp2_with (first
   | (refine aH ?_ 28 (.tmp 1) rfl _ (by simp[Act.eval]) _ (U j) ?_;. simp[Region.wanted,yielded])
   | (refine aH ?_ 28 (.tmp 1) rfl _ (by simp[Act.eval]) _ (U i) ?_;. simp[Region.wanted,yielded])
   | (go_at_call 12;refine(U g _ (U f)).mono ?_;rintro k J ⟨rfl,d⟩;have l:=VV (ac (U f) d);have j:=VV ((U m).aa d).load;rw[Pl.ad] at j;clear d))
  go_ret2;exact⟨rfl,U l⟩
def CA(b:World):List ((Nat×Nat)×Value)->Prop
 | []=>True
 | a::c=>b.cell? ⟨a.1.1,a.1.2,none⟩=some a.2/\CA b c
theorem CA.aa{a c:World}:∀{b:List ((Nat×Nat)×Value)},CA a b->Bw a c->CA c b
 | [],_,_=>trivial
 | e::b,h,d=>⟨aG h.1 d,CA.aa h.2 d⟩
section
variable{k m n:Nat}{W w:World}{a:Option Addr}{u v:Value}{P Q:Nat->Prop}
theorem aU{e:List Nt}(h:Nt.aj (λb=>n<=b/\b<w.heap.size) w a e)(c:Bw w W):Nt.aj (λb=>n<=b/\b<W.heap.size) W a e:=
 Nt.aq (Nt.au h c) λb d=>⟨d.1,be d.2 c.size⟩
theorem fP{d:List Nt}(h:Nt.aj (λb=>n<=b/\b<w.heap.size) w a d)(e:m<=n):Nt.aj (λb=>m<=b/\b<w.heap.size) w a d:=
 Nt.aq h λb c=>⟨aQ e c.1,c.2⟩
theorem cf:Nt.aj (λb=>n<=b/\b<w.heap.size) w a []:=by rw[Nt.aj];trivial
theorem cW(b:World)(a:List Np)(g:Nat)(m:g<=b.heap.size)(n:∀d∈a,Nt.aj (λc=>g<=c/\c<b.heap.size) b d.2.1 d.1.l):Nt.aj (λc=>g<=c/\c<(b.alloc (.cells (a.flatMap cl).toArray 46)).heap.size) (b.alloc (.cells (a.flatMap cl).toArray 46)) (some ⟨b.heap.size,0,none⟩) (a.map Prod.fst):=by
 have l:=ae (ar _ b) (.cells (a.flatMap cl).toArray 46);refine lj (S:=λc=>g<=c/\c<(b.alloc (.cells (a.flatMap cl).toArray 46)).heap.size) ⟨m,by simp⟩ a 0 (λf d e=>?_) λd e=>aU (n d e) l;have i:∀j k,(a.flatMap cl)[j]?=some k->(b.alloc (.cells (a.flatMap cl).toArray 46)).cell? ⟨b.heap.size,j,none⟩=some k:=λj k o=>by simp[go_sem,o]
 rw[aT];exact⟨i _ _ (by rw[show f*3=f*3+0 from rfl,dV a f d 0 e (by omega)];rfl),i _ _ (by rw[dV a f d 1 e (by omega)];rfl),i _ _ (by rw[dV a f d 2 e (by omega)];rfl)⟩
theorem NL.get{base n:Nat}{f:List Nt}(h:NL w base v f)(z:f.length=n):(f=[]/\v=.slice none 0 0)∨∃b i,v=.slice (some ⟨b,0,none⟩) n i/\∀a c,f[a]?=some c->∃l r,w.cell? ⟨b,a*3,none⟩=some (.bool c.b)/\w.cell? ⟨b,a*3+1,none⟩=some (.string c.s)/\w.cell? ⟨b,a*3+2,none⟩=some (.slice l c.l.length r)/\Nt.aj (λk=>base<=k/\k<w.heap.size) w l c.l:=by
 subst z;obtain⟨g,m,o,y⟩:=h;have j:=o;have E:g.length=f.length:=by rw[<-m,VP]
 rcases o.2 with ⟨rfl,x⟩|⟨b,i,A,rfl,B,C,_⟩
 .exact .inl ⟨eV x,rfl⟩
 .refine .inr ⟨b,i,rfl,λa c q=>?_⟩;rw[<-m,b8] at q;obtain⟨d,e,rfl⟩:=Option.map_eq_some_iff.1 q;have D:=(b6 e).1;have s:=dV g a d 0 e (by omega);have t:=dV g a d 1 e (by omega);have u:=dV g a d 2 e (by omega);refine⟨d.2.1,d.2.2,?_,?_,?_,Nt.aq (y d (a8 e)) λk p=>⟨p.1,p.2.1⟩⟩;(.rw[World.ownsRow.cellAt j (a*3) (by omega)];exact s);(.rw[World.ownsRow.cellAt j (a*3+1) (by omega)];exact t);.rw[World.ownsRow.cellAt j (a*3+2) (by omega)];exact u
theorem NL.cells{base:Nat}{b:List Nt}(h:NL w base v b)(r:1<=b.length):∃(c f:Nat) (a:List Np),v=.slice (some ⟨c,0,none⟩) b.length f/\a.map Prod.fst=b/\(∀d i,(a.flatMap cl)[d]?=some i->w.cell? ⟨c,d,none⟩=some i)/\∀e∈a,Nt.aj (λg=>base<=g/\g<w.heap.size) w e.2.1 e.1.l:=by
 obtain⟨a,j,k,o⟩:=h;have n:=k;have x:a.length=b.length:=by rw[<-j,VP]
 rcases k.2 with ⟨rfl,s⟩|⟨c,f,q,rfl,t,u,_⟩
 .omega
 .refine⟨c,f,a,rfl,j,λd i l=>?_,λe p=>Nt.aq (o e p) λg m=>⟨m.1,m.2.1⟩⟩;have:=(b6 l).1;rw[iv] at this;rw[World.ownsRow.cellAt n d (by omega),l]
theorem NL.cat(b:World)(z:TypeId)(base:Nat)(j:Value)(l:List Nt)(K:NL b base j l)(c:List Np)(p d s:Nat)(J:c.length=p)(E:∀e f,(c.flatMap cl)[e]?=some f->b.cell? ⟨d,e,none⟩=some f)(M:∀q∈c,Nt.aj (NS b base j) b q.2.1 q.1.l)(W:l.length+p<=1099511627776)(v:base<=b.heap.size):∃m g,(Builtin.append_ #[44,44] z #[j,.slice (some ⟨d,0,none⟩) p s]).run prog b=.ok m g/\NL g base m (l++c.map Prod.fst)/\Below base b g:=by
 subst J;obtain⟨N,G,S,T,V⟩:=info_parts ob;obtain⟨y,C,t,D⟩:=K;obtain⟨m,g,L,O,o,_,Q⟩:=run_append_own_at (P:=prog) b base 44 z 46 N (.agg #[.bool false,.string ⟨#[]⟩,.slice none 0 0]) 3 48 underlying44 G S T V rfl (by decide) j l.length (y.flatMap cl) t ⟨d,0,none⟩ c.length s (c.flatMap cl) (iv c) (λe f I=>by(have B:(⟨d,0,none⟩:Addr).add e=⟨d,e,none⟩:=by by_cases h:e=0<;>simp[Addr.add,h]);rw[B];exact E e f I) (λf k=>by obtain⟨q,_,k⟩:=List.mem_flatMap.1 k;simp[cl] at k;rcases k with rfl|rfl|rfl<;>rfl) (by unfold maxLen;omega) (by omega) v;have w:fm (NS b base j) b g:=λr R f u F=>by rw[World.cell?_of_block (w:=b) (a:=⟨r,R,none⟩) (o.block r u.2.1 λn=>u.2.2 n.symm)];exact F
 have x:=NS.push (base:=base) o.size Q;refine⟨m,g,L,⟨y++c,by simp[C],?_,λA i=>?_⟩,bP o v λd n=>(World.ownsRow.lt t d n).1⟩;.rw[List.flatMap_append,bj,VP];exact O
 .rcases jD i with i|i;(.exact Nt.ak w x _ (D A i));.exact Nt.ak w x _ (M A i)
theorem kE{q:Array Oper}{rest:List Oper}{b:Oper}{f:Act}{n:Exit->Act->World->Prop}(a:World)(x:b.guard=none)(l m:Operand)(A:b.op=.call { callee:=.builtin .append,args:=#[l,m],argTypes:=#[44,44] }) (base:Nat) (d:Value) (g:List Nt) (c:List Np) (i k o:Nat) (D:f.eval l=d) (B:NL a base d g) (E:f.eval m=.slice (some ⟨k,0,none⟩) i o) (z:c.length=i) (w:∀p r,(c.flatMap cl)[p]?=some r->a.cell? ⟨k,p,none⟩=some r) (F:∀s∈c,Nt.aj (NS a base d) a s.2.1 s.1.l) (y:g.length+i<=1099511627776) (v:base<=a.heap.size) (h:∀j e,NL e base j (g++c.map Prod.fst)->Below base a e->wpList prog q n rest (f.put b.dst j) e):wpList prog q n (b::rest) f a:=by obtain⟨j,e,C,t,u⟩:=NL.cat a b.type base d g B c i k o z w F y v;exact di x l m 44 A d _ D E C (h j e t u)
theorem NL.low{d:List Nt}(h:NL w n v d)(c:m<=n):NL w m v d:=by obtain⟨q,l,b,o⟩:=h;exact⟨q,l,⟨b.1,b.2.imp id λ⟨k,e,f,g,i,j⟩=>⟨k,e,f,g,aQ c i,j⟩⟩,λr p=>Nt.aq (o r p) λs a=>⟨aQ c a.1,a.2.1,a.2.2⟩⟩
theorem eO{base n:Nat}{d:List Nt}(e:Bw w W)(f:w.heap.size<=m)(i:m<base)(hF:Nt.aj (λb=>base<=b/\b<W.heap.size) W a d)(g:d.length=n):h5 (cY d) w (.returned (.agg #[.bool true,.string ⟨#[]⟩,.slice a n k])) (((W.setCell ⟨m,0,none⟩ (.bool true)).setCell ⟨m,1,none⟩ (.string ⟨#[]⟩)).setCell ⟨m,2,none⟩ (.slice a n k)):=by subst g;exact⟨a,k,rfl,Nt.ak (d4 W m _ _ _) (λb c=>⟨by omega,be c.2 (by simp)⟩) _ (Nt.aq hF λb c=>⟨by omega,c.2⟩),bT e f _ _ _⟩
theorem eM(p:Pl):fo p=cY (gp (VO aX p.op)::(rG p.op p.tab (p.ex.map fS) p.cols p.keys p.aggs p.fn p.col p.n p.off++p.args.map fo)):=by cases p;rw[fo,lS];rfl
theorem sp{α:Type}:∀{c:List α},c.length=2->∃a b,c=[a,b]
 | [a,b],_=>⟨a,b,rfl⟩
theorem h5.eq{b c:Nt}{a:Ending}(h:h5 c w a W)(d:b=c):h5 b w a W:=d ▸ h
inductive Tt where
 | mk (k:Int) (s:ByteArray) (l:List Tt)
end
def Tt.k:Tt->Int | .mk a _ _=>a
def Tt.s:Tt->ByteArray | .mk _ a _=>a
def Tt.l:Tt->List Tt | .mk _ _ a=>a
mutual
def Tt.size:Tt->Nat
 | .mk _ _ a=>Tt.sizes a+1
def Tt.sizes:List Tt->Nat
 | []=>0
 | a::b=>a.size+Tt.sizes b
end
theorem Tt.am(a:Tt):a.size=Tt.sizes a.l+1:=by cases a;rw[Tt.size];rfl
theorem Tt.an:∀{b:List Tt} {a:Tt},a∈b->a.size<=Tt.sizes b
 | [],_,h=>by cases h
 | c::b,a,h=>by rw[Tt.sizes];rcases dm h with rfl|h;(.omega);.have:=Tt.an h;omega
def Tt.val(a:Tt)(b:Option Addr)(c:Nat):Value:=.agg #[.int .i64 a.k,.string a.s,.slice b a.l.length (a.l.length+c)]
theorem Tt.ad(a:Tt)(b:Option Addr)(c:Nat):a.val b c=.agg #[.int .i64 a.k,.string a.s,.slice b a.l.length (a.l.length+c)]:=rfl
mutual
def Tt.at(a:World)(b d:Nat):Tt->Prop
 | .mk i g c=>∃e f,(a.cell? ⟨b,d,none⟩=some (.int .i64 i)/\a.cell? ⟨b,d+1,none⟩=some (.string g)/\a.cell? ⟨b,d+2,none⟩=some (.slice e c.length (c.length+f)))/\Tt.all a e c
def Tt.all(c:World)(d:Option Addr):List Tt->Prop
 | []=>True
 | e::f=>∃a b,d=some ⟨a,b,none⟩/\Tt.at c a b e/\(Tt.all c (some ⟨a,b+3,none⟩) f)
end
mutual
theorem Tt.az:∀(f:Tt) {b e:World} {c d:Nat},Tt.at b c d f->Bw b e->Tt.at e c d f
 | .mk p o n,b,e,c,d,h,a=>by rw[Tt.at] at h ⊢;obtain⟨g,i,⟨j,k,l⟩,m⟩:=h;exact⟨g,i,⟨aG j a,aG k a,aG l a⟩,Tt.ab n m a⟩
theorem Tt.ab:∀(c:List Tt) {a d:World} {b:Option Addr},Tt.all a b c->Bw a d->Tt.all d b c
 | [],a,d,b,h,e=>by rw[Tt.all];trivial
 | g::c,a,d,b,h,e=>by rw[Tt.all] at h ⊢;obtain⟨f,l,i,j,k⟩:=h;exact⟨f,l,i,Tt.az g j e,Tt.ab c k e⟩
end
theorem Tt.all_get{k:World}:∀{g:List Tt} {i:Option Addr} {d:Nat} {e:Tt},Tt.all k i g->g[d]?=some e->∃b a,i=some ⟨b,a,none⟩/\Tt.at k b (a+d*3) e
 | [],_,_,_,_,c=>by simp at c
 | p::g,i,0,e,h,c=>by rw[Tt.all] at h;obtain⟨b,a,j,n,_⟩:=h;simp at c;subst c;exact⟨b,a,j,by simpa using n⟩
 | p::g,i,d+1,e,h,c=>by rw[Tt.all] at h;obtain⟨b,a,j,_,o⟩:=h;obtain⟨q,r,f,l⟩:=Tt.all_get o (by simpa using c:g[d]?=some e);injection f with f;injection f with f m;subst f m;refine⟨b,a,j,?_⟩;rw[show a+(d+1)*3=a+3+d*3 by omega];exact l
mutual
def Tt.atF(f:Nat->Prop)(a:World)(b d:Nat):Tt->Prop
 | .mk j i c=>∃e g,(a.cell? ⟨b,d,none⟩=some (.int .i64 j)/\a.cell? ⟨b,d+1,none⟩=some (.string i)/\a.cell? ⟨b,d+2,none⟩=some (.slice e c.length (c.length+g)))/\Tt.aj f a e c
def Tt.aj(b:Nat->Prop)(d:World)(e:Option Addr):List Tt->Prop
 | []=>True
 | f::g=>∃a c,e=some ⟨a,c,none⟩/\b a/\Tt.atF b d a c f/\(Tt.aj b d (some ⟨a,c+3,none⟩) g)
end
mutual
theorem Tt.atF_kept{a f:Nat->Prop}{j k:World}(c:fm a j k)(r:∀i,a i->f i):∀(g:Tt) {b e:Nat},a b->Tt.atF a j b e g->Tt.atF f k b e g
 | .mk u t s,b,e,d,h=>by rw[Tt.atF] at h ⊢;obtain⟨l,m,⟨n,o,p⟩,q⟩:=h;exact⟨l,m,⟨c _ _ _ d n,c _ _ _ d o,c _ _ _ d p⟩,Tt.ak c r s q⟩
theorem Tt.ak{S d:Nat->Prop}{i j:World}(f:fm S i j)(c:∀g,S g->d g):∀(b:List Tt) {a:Option Addr},Tt.aj S i a b->Tt.aj d j a b
 | [],a,h=>by rw[Tt.aj];trivial
 | l::b,a,h=>by rw[Tt.aj] at h ⊢;obtain⟨k,p,m,e,n,o⟩:=h;exact⟨k,p,m,c _ e,Tt.atF_kept f c l e n,Tt.ak f c b o⟩
end
mutual
theorem Tt.atF_at{e:Nat->Prop}{d:World}:∀(c:Tt) {a b:Nat},Tt.atF e d a b c->Tt.at d a b c
 | .mk m l k,a,b,h=>by rw[Tt.atF] at h;rw[Tt.at];obtain⟨f,g,i,j⟩:=h;exact⟨f,g,i,Tt.aA k j⟩
theorem Tt.aA{d:Nat->Prop}{c:World}:∀(b:List Tt) {a:Option Addr},Tt.aj d c a b->Tt.all c a b
 | [],a,h=>by rw[Tt.all];trivial
 | f::b,a,h=>by rw[Tt.aj] at h;rw[Tt.all];obtain⟨e,k,g,l,i,j⟩:=h;exact⟨e,k,g,Tt.atF_at f i,Tt.aA b j⟩
end
variable{P Q:Nat->Prop}{W w:World}{a:Option Addr}{k m n:Nat}{u v:Value}
theorem Tt.aq{b:List Tt}(h:Tt.aj P w a b)(d:∀c,P c->Q c):Tt.aj Q w a b:=Tt.ak (λ_ _ _ _ h=>h) d b h
theorem Tt.au{b:List Tt}(h:Tt.aj P w a b)(c:Bw w W):Tt.aj P W a b:=Tt.ak (λ_ _ _ _ h=>aG h c) (λ_ h=>h) b h
abbrev Tp:=Tt×Option Addr×Nat
def eI(a:Tp):List Value:=[.int .i64 a.1.k,.string a.1.s,.slice a.2.1 a.1.l.length (a.1.l.length+a.2.2)]
theorem hZ:∀(d:List Tp) (b:Nat) (c:Tp) (a:Nat),d[b]?=some c->a<3->(d.flatMap eI)[b*3+a]?=(eI c)[a]?
 | [],b,c,a,h,_=>by simp at h
 | f::d,0,c,a,h,e=>by simp at h;subst h;rw[fl,Nat.zero_mul,aT,mt (by simp[eI];omega)]
 | f::d,b+1,c,a,h,e=>by rw[fl,gn (by simp[eI];omega)];(have g:(b+1)*3+a-(eI f).length=b*3+a:=by simp[eI];omega);rw[g];exact hZ d b c a (by simpa using h) e
def r7(c:World)(base:Nat)(b:Value)(a:Nat):Prop:=base<=a/\a<c.heap.size/\b.ownBlock≠some a
def TL(b:World)(base:Nat)(d:Value)(c:List Tt):Prop:=∃a:List Tp,a.map Prod.fst=c/\b.ownsRow base 51 3 d c.length (a.flatMap eI)/\∀e∈a,Tt.aj (r7 b base d) b e.2.1 e.1.l
theorem TL.nil(b:World)(base:Nat):TL b base (.slice none 0 0) []:=⟨[],rfl,⟨rfl,.inl ⟨rfl,rfl⟩⟩,λc a=>by cases a⟩
theorem oz{S:Nat->Prop}{f:World}{d:Nat}(i:S d):∀(e:List Tp) (b:Nat),(∀c a,e[c]?=some a->f.cell? ⟨d,b+c*3,none⟩=some (.int .i64 a.1.k)/\f.cell? ⟨d,b+c*3+1,none⟩=some (.string a.1.s)/\f.cell? ⟨d,b+c*3+2,none⟩=some (.slice a.2.1 a.1.l.length (a.1.l.length+a.2.2)))->(∀a∈e,Tt.aj S f a.2.1 a.1.l)->Tt.aj S f (some ⟨d,b,none⟩) (e.map Prod.fst)
 | [],b,_,_=>by rw[List.map_nil,Tt.aj];trivial
 | ⟨⟨o,n,m⟩,k,l⟩ :: e,b,h,j=>by rw[bi,Tt.aj];refine⟨d,b,rfl,i,?_,?_⟩;(.rw[Tt.atF];have:=h 0 _ rfl;simp only[Nat.zero_mul,Nat.add_zero] at this;exact⟨k,l,this,j _ (List.mem_cons_self ..)⟩);.refine oz i e (b+3) (λc a g=>?_) λa g=>j a (List.mem_cons_of_mem _ g);have:=h (c+1) a (by simpa using g);rw[show b+(c+1)*3=b+3+c*3 by omega] at this;exact this
theorem TL.node{base:Nat}{a:List Tt}(h:TL w base v a):∃i m,v=.slice i a.length (a.length+m)/\Tt.aj (λd=>base<=d/\d<w.heap.size) w i a:=by
 obtain⟨e,j,k,s⟩:=h;have g:=k;have C:e.length=a.length:=by rw[<-j,VP]
 rcases k.2 with ⟨rfl,r⟩|⟨A,q,z,rfl,t,x,u,_⟩
 .have:a=[]:=eV r;subst this;exact⟨none,0,rfl,by rw[Tt.aj];trivial⟩
 .have y:=(Array.getElem?_eq_some_iff.1 x).1;refine⟨_,q-a.length,by rw[Nat.add_sub_cancel' u],?_⟩;rw[<-j];refine oz (S:=λd=>base<=d/\d<w.heap.size) ⟨t,y⟩ e 0 (λc f b=>?_) λf b=>Tt.aq (s f b) λd l=>⟨l.1,l.2.1⟩;have B:=(b6 b).1;have n:=hZ e c f 0 b (by omega);have o:=hZ e c f 1 b (by omega);have p:=hZ e c f 2 b (by omega);rw[aT];refine⟨?_,?_,?_⟩;(.rw[World.ownsRow.cellAt g (c*3) (by omega)];exact n);(.rw[World.ownsRow.cellAt g (c*3+1) (by omega)];exact o);.rw[World.ownsRow.cellAt g (c*3+2) (by omega)];exact p
theorem rK:(Tryz.prog.info? 51).map (λa=>(a.zero,a.size,a.bytes))=some (some (.agg #[.int .i64 0,.string ⟨#[]⟩,.slice none 0 0]),3,48):=by kernel_rfl
theorem r7.push{base:Nat}(d:w.heap.size<=W.heap.size)(h:u.ownBlock=v.ownBlock∨u.ownBlock=some w.heap.size):∀c,r7 w base v c->r7 W base u c:=λc b=>⟨b.1,by have:=b.2.1;omega,λa=>by
 rcases h with h|h
 .exact b.2.2 (h ▸ a)
 .rw[h] at a;injection a with a;have:=b.2.1;omega⟩
theorem TL.push(b:World)(w:TypeId)(base:Nat)(j:Value)(k:List Tt)(E:TL b base j k)(i:Tp)(G:Tt.aj (r7 b base j) b i.2.1 i.1.l)(c:Nat)(A:∀d f,(eI i)[d]?=some f->b.cell? ⟨c,d,none⟩=some f)(R:k.length+1<=1099511627776)(r:base<=b.heap.size):∃l g,(Builtin.append_ #[49,49] w #[j,.slice (some ⟨c,0,none⟩) 1 1]).run prog b=.ok l g/\TL g base l (k++[i.1])/\Below base b g:=by
 obtain⟨I,C,N,O,Q⟩:=info_parts rK;obtain⟨v,y,p,z⟩:=E;obtain⟨l,g,F,J,n,_,K⟩:=run_append_own_at (P:=prog) b base 49 w 51 I (.agg #[.int .i64 0,.string ⟨#[]⟩,.slice none 0 0]) 3 48 underlying49 C N O Q rfl (by decide) j k.length (v.flatMap eI) p ⟨c,0,none⟩ 1 1 (eI i) rfl (λd f D=>by(have x:(⟨c,0,none⟩:Addr).add d=⟨c,d,none⟩:=by by_cases h:d=0<;>simp[Addr.add,h]);rw[x];exact A d f D) (λf u=>by simp[eI] at u;rcases u with rfl|rfl|rfl<;>rfl) (by unfold maxLen;omega) (by omega) r;have s:fm (r7 b base j) b g:=λo L f q B=>by rw[World.cell?_of_block (w:=b) (a:=⟨o,L,none⟩) (n.block o q.2.1 λm=>q.2.2 m.symm)];exact B
 have t:=r7.push (base:=base) n.size K;refine⟨l,g,F,⟨v++[i],by simp[y],?_,λM e=>?_⟩,bP n r λc m=>(World.ownsRow.lt p c m).1⟩;.rw[List.flatMap_append,bj];simpa using J
 .rcases jD e with e|e;(.exact Tt.ak s t _ (z M e));.rw[List.mem_singleton] at e;subst e;exact Tt.ak s t _ G
end Go.Proofs.YtabmgpillccfaaaGreatDoor

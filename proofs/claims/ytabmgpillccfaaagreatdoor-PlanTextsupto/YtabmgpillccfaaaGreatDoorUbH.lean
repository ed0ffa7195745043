import Derived.Test.YtabmgpillccfaaaGreatDoorUbD
set_option linter.all false
set_option maxHeartbeats 2000000
set_option maxRecDepth 100000
namespace Go.Proofs.YtabmgpillccfaaaGreatDoor
open Go.RowKit Go.Sort Go.Proofs.Tryz
theorem me(c:ByteArray)(a:List Dt):headD (.mk false c a)=⟨#[]⟩:=by
 unfold headD;cases a with
 | nil=>rfl
 | cons h d=>exact aL λb:false=true/\_=>by cases b.1
theorem ep{a:List (List UInt8)}(b:hT a=true):ch a ⟨#[]⟩=-1:=oc b (.inl rfl)
theorem qL(d a:ByteArray)(b c:List Dt):headD (.mk true d (.mk false a b::c))=a:=by unfold headD;exact aR ⟨rfl,rfl⟩
theorem qM(e c:ByteArray)(b d:List Dt):headD (.mk true e (.mk true c b::d))=⟨#[]⟩:=by unfold headD;exact aL λa:true=true/\true=false=>by cases a.2
theorem ry(a:List (List UInt8))(b:ByteArray)(d:List Dt):cn a (.mk true b d)=none:=by unfold cn;exact aL λc:true=false/\0<=ch a b=>by cases c.1
theorem fX{a:List (List UInt8)}(e:hT a=true)(c:ByteArray)(h:Dt)(b:List Dt):cn a h=if 0<=ch a (headD (.mk true c (h::b))) then some (ch a (headD (.mk true c (h::b)))+1) else none:=by
 obtain⟨d,g,f⟩:=h;cases d with
 | true=>rw[qM,ep e,aL (by decide),ry]
 | false=>rw[qL];unfold cn;simp only[Dt.k,Dt.s,true_and]
theorem k0{a:List (List UInt8)}(g:hT a=true)(i:ByteArray)(h:Dt)(c:List Dt):(cv (.mk true i (h::c))).bind (bB a)=(cn a h).bind λd=>(aW (c.map cv)).map λe=>(d,e):=by
 rw[e2,<-hD g h,bi];cases cv h with
 | none=>rfl
 | some b=>
  show (((aW (c.map cv)).map λf=>b::f).map λf=>Tt.mk 3 ⟨#[]⟩ f).bind (bB a)=(bW a b).bind _
  cases aW (c.map cv) with
  | none=>cases bW a b<;>rfl
  | some e=>show (if (3:Int)=3 then (bW a b).map λd=>(d,e) else none)=_;rw[aR rfl];cases bW a b<;>rfl
theorem jv{e:List (List UInt8)}{b:Dt}(h:b.k=false∨b.l=[])(c:Tt)(a:cv b=some c):bB e c=none:=by
 obtain⟨d,g,f⟩:=b;unfold bB;rcases h with h|h;.have:d=false:=h;subst this;rw[aL];rcases k9 c a with ⟨h,_⟩|h<;>(rw[h];decide)
 .have:f=[]:=h
  subst this
  cases d with
  | false=>
   rw[aL]
   rcases k9 c a with ⟨h,_⟩|h<;>(rw[h];decide)
  | true=>
   rw[e2] at a
   injection a with a
   subst a;rfl
theorem hS{a:Dt}(h:a.k=false∨a.l=[]):headD a=⟨#[]⟩:=by
 obtain⟨c,d,b⟩:=a;rcases h with h|h;.have:c=false:=h;subst this;exact me d b
 .have:b=[]:=h;subst this;rfl
theorem hV(a:Dt):(a.k=false∨a.l=[])∨∃c h b,a=.mk true c (h::b):=by
 obtain⟨d,c,e⟩:=a;cases d with
 | false=>exact .inl (.inl rfl)
 | true=>cases e with
  | nil=>exact .inl (.inr rfl)
  | cons h b=>exact .inr ⟨c,h,b,rfl⟩
def hG{a:Type}(b:Tt->Option a):List Tt->Option a
 | [c]=>b c
 | _=>none
theorem nZ{d:Type}(c:Dt->Option d)(e:Tt->Option d)(h:∀f,c f=(cv f).bind e)(a:List Dt):(aW (a.map cv)).bind (hG e)=if a.length=1 then c (dc a 0) else none:=by
 match a with
 | []=>rfl
 | [b]=>show (aW [cv b]).bind _=c b;rw[h];cases cv b<;>rfl
 | b::i::a=>
  rw[aL (by simp)]
  cases g:aW ((b::i::a).map cv) with
  | none=>rfl
  | some j=>
   have:=gx g
   match j,this with
   | [],h=>cases h
   | [_],h=>simp at h
   | _::_::_,_=>rfl
theorem sG(f:Dt):gh f=(cv f).bind VM:=by
 have m:∀b,VM b=(bB ea b).bind λc=>(hG cp c.2).map λl=>(c.1,l):=λb=>by
  unfold VM
  cases bB ea b with
  | none=>rfl
  | some c=>obtain⟨r,a⟩:=c;match a with
   | []=>rfl
   | [s]=>rfl
   | _::_::_=>rfl
 have k:hT ea=true:=by decide +kernel
 unfold gh;rcases hV f with h|⟨j,h,a,rfl⟩
 .rw[hS h,ep k,aL (by omega)]
  cases p:cv f with
  | none=>rfl
  | some b=>show none=VM b;rw[m,jv h b p];rfl
 .have d:(cv (.mk true j (h::a))).bind VM=((cv (.mk true j (h::a))).bind (bB ea)).bind λc=>(hG cp c.2).map λl=>(c.1,l):=by
   rw[Option.bind_assoc];congr 1;funext b;exact m b
  rw[d,k0 k,fX k j h a]
  generalize ch ea (headD (.mk true j (h::a)))=q
  have e:=nZ bO cp gB a
  by_cases g:0<=q
  .rw[aR g]
   show _=((aW (a.map cv)).map _).bind _
   by_cases i:a.length=1
   .rw[aR ⟨g,by show (h::a).length=2;simp[i]⟩]
    rw[aR i] at e
    show (bO (dc (h::a) 1)).map _=_
    rw[show dc (h::a) 1=dc a 0 from rfl,<-e]
    cases aW (a.map cv)<;>rfl
   .rw[aL (by rintro⟨_,d⟩;exact i (by simpa using(show (h::a).length=2 from d)))]
    rw[aL i] at e
    cases o:aW (a.map cv) with
    | none=>rfl
    | some n=>rw[o] at e;show none=(hG cp n).map _;rw[show hG cp n=none from e];rfl
  .rw[aL g,aL (λd=>g d.1)];rfl
theorem sr(c:Dt):iL c=(cv c).bind fr:=by
 have r:hT [cy]=true:=by decide +kernel
 unfold iL;by_cases o:c.k=false
 .rw[hS (.inl o),aL (by rintro⟨h,_⟩;exact absurd h (by decide)),gB]
  obtain⟨g,f,p⟩:=c
  have:g=false:=o
  subst this
  cases e:cv (.mk false f p) with
  | none=>rfl
  | some b=>
   show _=fr b
   unfold fr
   rw[aL];rfl
   rcases k9 b e with ⟨h,_⟩|h<;>(rw[h];decide)
 have t:∀b,cv c=some b->fr b=(bB [cy] b).bind λk=>(hG cp k.2).map λd=>(d,true):=λb e=>by
  have s:b.k=3:=by
   obtain⟨g,f,p⟩:=c
   cases g with
   | false=>exact absurd rfl o
   | true=>rw[e2] at e;obtain⟨q,_,rfl⟩:=Option.map_eq_some_iff.1 e;rfl
  unfold fr
  rw[aR s]
  cases bB [cy] b with
  | none=>rfl
  | some k=>obtain⟨x,a⟩:=k;match a with
   | []=>rfl
   | [y]=>rfl
   | _::_::_=>rfl
 have i:(cv c).bind fr=((cv c).bind (bB [cy])).bind λk=>(hG cp k.2).map λd=>(d,true):=by
  cases e:cv c with
  | none=>rfl
  | some b=>exact t b e
 have u:bO c=none:=by
  obtain⟨g,f,p⟩:=c
  cases g with
  | false=>exact absurd rfl o
  | true=>rfl
 rw[i,u];rcases hV c with h|⟨f,h,a,rfl⟩
 .rw[hS h,aL (by rintro⟨h,_⟩;exact absurd h (by decide))]
  cases e:cv c with
  | none=>rfl
  | some b=>show none=(bB [cy] b).bind _;rw[jv h b e];rfl
 .rw[k0 r,fX r f h a];generalize headD (.mk true f (h::a))=d;have w:(0<=ch [cy] d)=(d=bs cy):=by unfold ch Lib.idxOfS;show (0<=Lib.idxFromS [bs cy] d 0)=_;rw[Lib.idxFromS];by_cases n:bs cy=d;(.rw[aR n];simp[n]);.rw[aL n];simp only[Lib.idxFromS,eq_iff_iff];exact⟨λh=>absurd h (by decide),λh=>absurd h.symm n⟩
  simp only[w];have j:=nZ bO cp gB a;by_cases l:d=bs cy
  .rw[aR l];show _=((aW (a.map cv)).map _).bind _;by_cases m:a.length=1;.rw[aR ⟨l,by show (h::a).length=2;simp[m]⟩];rw[aR m] at j;show (bO (dc (h::a) 1)).map _=_;rw[show dc (h::a) 1=dc a 0 from rfl,<-j];cases aW (a.map cv)<;>rfl
   .rw[aL (by rintro⟨_,i⟩;exact m (by simpa using(show (h::a).length=2 from i)))]
    rw[aL m] at j
    cases v:aW (a.map cv) with
    | none=>rfl
    | some q=>rw[v] at j;show none=(hG cp q).map _;rw[show hG cp q=none from j];rfl
  .rw[aL l,aL (λi=>l i.1)];rfl
theorem n8(a:Dt):eU a=(cv a).bind λc=>(bF c).bind λb=>a6 fr b:=hP iL fr a λd _=>sr d
theorem r0(a:Dt):((dd a).bind λb=>aW (b.map gh))=(cv a).bind λc=>(bF c).bind λb=>a6 VM b:=hP gh VM a λd _=>sG d
theorem qC(a:Dt):((dd a).bind λb=>aW (b.map (cn bG)))=(cv a).bind λc=>(bF c).bind λb=>a6 gm b:=hP (cn bG) gm a λd _=>rH d
theorem oh(b:ByteArray)(a:List Dt):d9 (.mk false b a)=gl b:=by cases a<;>(unfold d9;rfl)
theorem oj(a:ByteArray):d9 (.mk true a [])=none:=by unfold d9;rfl
theorem ml(c:ByteArray)(h:Dt)(a:List Dt):d9 (.mk true c (h::a))=if 0<=ch bV (headD (.mk true ⟨#[]⟩ [h]))/\(a.length:Int)=fD (ch bV (headD (.mk true ⟨#[]⟩ [h]))+3) then (pB a).map λb=>.mk (ch bV (headD (.mk true ⟨#[]⟩ [h]))+3) 0 ⟨0,0,⟨#[]⟩⟩ b else none:=by
 conv=>lhs;unfold d9
 rfl
theorem qT(a:ByteArray)(b:List Tt):eG (.mk 2 a b)=some (.mk 2 0 ⟨2,0,a⟩ []):=by rw[gg];rfl
theorem qS(a:ByteArray)(b:List Tt):eG (.mk 1 a b)=fy (.mk 1 a []):=by rw[gg];rfl
theorem rR(a:ByteArray):eG (.mk 3 a [])=none:=by rw[gg];rfl
theorem mj(d:ByteArray)(h:Tt)(a:List Tt):eG (.mk 3 d (h::a))=match bW bV h with
  | none=>none
  | some b=>if (a.length:Int)=fD (b+2) then (nC a).map λc=>.mk (b+2) 0 ⟨0,0,⟨#[]⟩⟩ c else none:=by
 rw[gg];rfl
theorem sV{a c:UInt8}{b:ByteArray}(h:eZ a b.data.toList=true)(g:¬a=c):eZ c b.data.toList=false:=by
 cases f:b.data.toList with
 | nil=>rfl
 | cons i e=>rw[f] at h;by_cases d:i=a;(.rw[d];exact fM e g);.rw[fM e d] at h;cases h
mutual
theorem mh:∀l:Dt,d9 l=(cv l).bind eG
 | .mk false i r=>by
  rw[oh]
  unfold gl
  cases g:eZ 34 i.data.toList with
  | true=>
   rw[qY g,aL (λc=>by rw[c] at g;exact absurd g (by decide)),sV g (by decide)]
   simp only[Bool.false_eq_true,if_false,if_true]
   cases ht i.data.toList with
   | none=>rfl
   | some s=>exact(qT (bs s) []).symm
  | false=>
   rw[qX g]
   show _=eG (.mk 1 i [])
   rw[qS];rfl
 | .mk true i []=>by rw[e2,oj];show none=eG (.mk 3 ⟨#[]⟩ []);rw[rR]
 | .mk true i (h::e)=>by
  have n:hT bV=true:=by decide +kernel
  have q:=gO (l:=e) (qP e)
  rw[e2,bi,ml,k4,q]
  have a:=fX n ⟨#[]⟩ h []
  rw[<-hD n h] at a
  generalize ch bV (headD (.mk true ⟨#[]⟩ [h]))=d at a ⊢
  cases m:cv h with
  | none=>
   rw[m] at a
   have:¬0<=d:=λf=>by rw[aR f] at a;cases a
   rw[aL (λc=>this c.1)];rfl
  | some k=>
   rw[m] at a
   have a:bW bV k=_:=a
   show _=(((aW (e.map cv)).map λb=>k::b).map λb=>Tt.mk 3 ⟨#[]⟩ b).bind eG
   by_cases f:0<=d
   .rw[aR f] at a
    cases p:aW (e.map cv) with
    | none=>
     show (if _ then (none:Option (List Ex)).map _ else none)=none
     split<;>rfl
    | some b=>
     have o:=gx p
     rw[VP] at o
     show (if 0<=d/\(e.length:Int)=fD (d+3) then (aW (b.map eG)).map _ else none)=eG (.mk 3 ⟨#[]⟩ (k::b))
     rw[mj,a]
     show _=if _ then _ else _
     rw[show d+1+2=d+3 by omega,k3,cu,o]
     by_cases j:(e.length:Int)=fD (d+3)
     .rw[aR ⟨f,j⟩,aR j]
     .rw[aL (λc=>j c.2),aL j]
   .rw[aL f] at a
    rw[aL (λc=>f c.1)]
    cases aW (e.map cv) with
    | none=>rfl
    | some b=>
     show none=eG (.mk 3 ⟨#[]⟩ (k::b))
     rw[mj,a]
theorem qP:∀b:List Dt,∀a∈b,d9 a=(cv a).bind eG
 | [],a,h=>by cases h
 | c::b,a,h=>by rcases dm h with h|h;(.rw[h];exact mh c);.exact qP b a h
end
theorem sx(a:Dt):((dd a).bind λb=>aW (b.map d9))=(cv a).bind λc=>(bF c).bind λb=>a6 eG b:=hP d9 eG a λd _=>mh d
theorem cb{b c:Type}(a:Option b):(a.bind λ_=>(none:Option c))=none:=by cases a<;>rfl
theorem eA{b:Type}(a:Option b)(c:List (Option b)):aW (a::c)=a.bind λd=>(aW c).map λe=>d::e:=by cases a<;>rfl
theorem oR(f:Int)(J:1<=f/\f<=12)(g:List Dt)(y:f=8∨(g.length:Int)=bN f)(c:∀w∈g,bZ w=(cv w).bind b9):bu f g (g.map bZ)=(aW (g.map cv)).bind λj=>bm f j (j.map b9):=by
 have E:f=1∨f=2∨f=3∨f=4∨f=5∨f=6∨f=7∨f=8∨f=9∨f=10∨f=11∨f=12:=by omega
 have t:∀l:Int,(l=7∨l=8∨l=11)->bu l g (g.map bZ)=(aW (g.map cv)).bind λj=>bm l j (j.map b9):=λl I=>by
  have x:∀j v,bm l j v=(aW v).map λs=>.mk l ⟨#[]⟩ [] [] [] [] 0 0 0 0 s:=λj v=>by
   unfold bm
   rw[aL (by omega),aL (by omega),aL (by omega),aL (by omega),aL (by omega),aL (by omega),aL (by omega)]
  unfold bu
  rw[aL (by omega),aL (by omega),aL (by omega),aL (by omega),aL (by omega),aL (by omega),aL (by omega),gO c]
  cases aW (g.map cv) with
  | none=>rfl
  | some j=>show (aW (j.map b9)).map _=bm l j (j.map b9);rw[x]
 have k:∀u:Nat,bN f=(u:Int)->¬f=8->g.length=u:=λu x F=>by rcases y with h|h;exact absurd h F;omega
 rcases E with rfl|rfl|rfl|rfl|rfl|rfl|rfl|rfl|rfl|rfl|rfl|rfl;case inr.inr.inr.inr.inr.inr.inl=>exact t 7 (by decide)
 case inr.inr.inr.inr.inr.inr.inr.inl=>exact t 8 (by decide)
 case inr.inr.inr.inr.inr.inr.inr.inr.inr.inr.inl=>exact t 11 (by decide)
 all_goals clear t y
 .have h:=k 1 (by decide) (by decide)
  match g,h,c with
  | [a],_,c=>
   show (kg a).map _=(aW [cv a]).bind _
   rw[rE]
   cases cv a<;>rfl
 .have h:=k 2 (by decide) (by decide)
  match g,h,c with
  | [a,b],_,c=>
   show (aW [d9 a]).bind (λo=>(aW [bZ b]).map _)=(aW [cv a,cv b]).bind _
   rw[mh,c b (by simp)]
   cases cv a with
   | none=>rfl
   | some e=>
    cases cv b with
    | none=>exact cb _
    | some i=>show _=(a6 eG [e]).bind _;rw[cu];rfl
 .have h:=k 2 (by decide) (by decide)
  match g,h,c with
  | [a,b],_,c=>
   have p:bu 3 [a,b] ([a,b].map bZ)=((dd a).bind λq=>aW (q.map d9)).bind λo=>(aW [bZ b]).map λs=>.mk 3 ⟨#[]⟩ o [] [] [] 0 0 0 0 s:=by rw[Option.bind_assoc];rfl
   rw[p,sx,c b (by simp)]
   show _=(aW [cv a,cv b]).bind _
   cases cv a with
   | none=>rfl
   | some e=>
    cases cv b with
    | none=>exact cb _
    | some i=>show ((bF e).bind _).bind _=(bF e).bind _;rw[Option.bind_assoc];rfl
 .have h:=k 3 (by decide) (by decide)
  match g,h,c with
  | [a,b,d],_,c=>
   show (aW [d9 a]).bind (λo=>(aW [bZ b,bZ d]).map _)=(aW [cv a,cv b,cv d]).bind _
   rw[mh,c b (by simp),c d (by simp)]
   cases cv a with
   | none=>rfl
   | some e=>
    cases cv b with
    | none=>exact cb _
    | some i=>
     cases cv d with
     | none=>show (aW [eG e]).bind (λo=>(aW [b9 i,none]).map _)=none;rw[show aW [b9 i,none]=none by cases b9 i<;>rfl];exact cb _
     | some r=>show _=(a6 eG [e]).bind _;rw[cu];rfl
 .have h:=k 3 (by decide) (by decide)
  match g,h,c with
  | [a,b,d],_,c=>
   show (aW [d9 a]).bind (λo=>(aW [bZ b,bZ d]).map _)=(aW [cv a,cv b,cv d]).bind _
   rw[mh,c b (by simp),c d (by simp)]
   cases cv a with
   | none=>rfl
   | some e=>
    cases cv b with
    | none=>exact cb _
    | some i=>
     cases cv d with
     | none=>show (aW [eG e]).bind (λo=>(aW [b9 i,none]).map _)=none;rw[show aW [b9 i,none]=none by cases b9 i<;>rfl];exact cb _
     | some r=>show _=(a6 eG [e]).bind _;rw[cu];rfl
 .have h:=k 3 (by decide) (by decide)
  match g,h,c with
  | [a,b,d],_,c=>
   have p:bu 6 [a,b,d] ([a,b,d].map bZ)=(dM a).bind λn=>((dd b).bind λq=>aW (q.map gh)).bind λB=>(aW [bZ d]).map λs=>.mk 6 ⟨#[]⟩ [] n [] B 0 0 0 0 s:=by simp only[Option.bind_assoc];rfl
   rw[p,n0,r0,c d (by simp)]
   show _=(aW [cv a,cv b,cv d]).bind _
   cases cv a with
   | none=>rfl
   | some e=>
    cases cv b with
    | none=>exact cb _
    | some i=>
     cases cv d with
     | none=>simp only[eA,Option.bind_some,Option.bind_none,Option.map_none,cb]
     | some r=>show ((bF e).bind _).bind (λn=>((bF i).bind _).bind _)=(bF e).bind _;simp only[Option.bind_assoc];rfl
 .have h:=k 4 (by decide) (by decide)
  match g,h,c with
  | [a,b,d,m],_,c=>
   show (eU a).bind (λG=>(bO b).bind λw=>(bO d).bind λz=>(aW [bZ m]).map _)=(aW [cv a,cv b,cv d,cv m]).bind _
   rw[n8,gB,gB,c m (by simp)]
   cases cv a with
   | none=>rfl
   | some e=>
    cases cv b with
    | none=>exact cb _
    | some i=>
     cases cv d with
     | none=>simp only[eA,Option.bind_some,Option.bind_none,Option.map_none,cb]
     | some r=>
      cases cv m with
      | none=>simp only[eA,Option.bind_some,Option.bind_none,Option.map_none,cb]
      | some A=>show ((bF e).bind _).bind _=(bF e).bind _;simp only[Option.bind_assoc];rfl
 .have h:=k 6 (by decide) (by decide)
  match g,h,c with
  | [a,b,d,m,p4,p5],_,c=>
   show (cn d0 a).bind (λD=>(bO b).bind λC=>(bO d).bind λf=>(dM m).bind λn=>(eU p4).bind λG=>(aW [bZ p5]).map _)=(aW [cv a,cv b,cv d,cv m,cv p4,cv p5]).bind _
   rw[<-hD (by decide +kernel),gB,gB,n0,n8,c p5 (by simp)]
   cases cv a with
   | none=>rfl
   | some e=>
    cases cv b with
    | none=>exact cb _
    | some i=>
     cases cv d with
     | none=>simp only[eA,Option.bind_some,Option.bind_none,Option.map_none,cb]
     | some r=>
      cases cv m with
      | none=>simp only[eA,Option.bind_some,Option.bind_none,Option.map_none,cb]
      | some A=>
       cases cv p4 with
       | none=>simp only[eA,Option.bind_some,Option.bind_none,Option.map_none,cb]
       | some z=>
        cases cv p5 with
        | none=>simp only[eA,Option.bind_some,Option.bind_none,Option.map_none,cb]
        | some K=>show (bW d0 e).bind (λD=>(cp i).bind λC=>(cp r).bind λf=>((bF A).bind _).bind λn=>((bF z).bind _).bind _)=(bW d0 e).bind _;simp only[Option.bind_assoc];rfl
 .have h:=k 1 (by decide) (by decide)
  match g,h,c with
  | [a],_,c=>
   have p:bu 12 [a] ([a].map bZ)=((dd a).bind λq=>aW (q.map (cn bG))).map λn=>.mk 12 ⟨#[]⟩ [] n [] [] 0 0 0 0 []:=by
    show (dd a).bind _=_
    cases dd a<;>rfl
   rw[p,qC]
   show _=(aW [cv a]).bind _
   cases cv a with
   | none=>rfl
   | some e=>show ((bF e).bind _).map _=(bF e).bind _;cases bF e<;>rfl
mutual
theorem qq:∀q:Dt,bZ q=(cv q).bind b9
 | .mk p i n=>by
  have y:=nX n;have l:hT aX=true:=by decide +kernel
  have r:∀f,b9 f=(bB aX f).bind λd=>if d.1=8∨(d.2.length:Int)=bN d.1 then bm d.1 d.2 (d.2.map b9) else none:=λf=>by obtain⟨z,o,A⟩:=f;rw[je];cases bB aX (.mk z o A)<;>rfl
  rw[qp];unfold gt;rcases hV (.mk p i n) with h|⟨B,h,c,a⟩
  .rw[hS h,ep l,aL (λa=>absurd a.1 (by decide))]
   cases w:cv (.mk p i n) with
   | none=>rfl
   | some f=>show none=b9 f;rw[r,jv h f w];rfl
  .injection a with t u v;subst t u v;(have a:(cv (.mk true i (h::c))).bind b9=((cv (.mk true i (h::c))).bind (bB aX)).bind λd=>if d.1=8∨(d.2.length:Int)=bN d.1 then bm d.1 d.2 (d.2.map b9) else none:=by rw[Option.bind_assoc];congr 1;funext f;exact r f);rw[a,k0 l,fX l i h c];have s:=dC aX (headD (.mk true i (h::c)));rw[a7] at s;generalize ch aX (headD (.mk true i (h::c)))=b at s ⊢;show (if 0<=b/\(b=7∨(c.length:Int)=bN (b+1)) then bu (b+1) c (c.map bZ) else none)=_;by_cases k:0<=b
   .rw[aR k];show _=((aW (c.map cv)).map _).bind _;by_cases e:b=7∨(c.length:Int)=bN (b+1)
    .rw[aR ⟨k,e⟩,oR (b+1) (by omega) c (by rcases e with e|e;exact .inl (by omega);exact .inr e) λo x=>y o (List.mem_cons_of_mem _ x)]
     cases m:aW (c.map cv) with
     | none=>rfl
     | some g=>
      have j:=gx m
      rw[VP] at j
      show bm _ _ _=if b+1=8∨(g.length:Int)=bN (b+1) then bm (b+1) g (g.map b9) else none
      rw[j,aR (by rcases e with e|e;exact .inl (by omega);exact .inr e)]
    .rw[aL (λa=>e a.2)]
     cases m:aW (c.map cv) with
     | none=>rfl
     | some g=>
      have j:=gx m
      rw[VP] at j
      show none=if b+1=8∨(g.length:Int)=bN (b+1) then bm (b+1) g (g.map b9) else none
      rw[j,aL (λa=>e (by rcases a with a|a;exact .inl (by omega);exact .inr a))]
   .rw[aL k,aL (λa=>k a.1)];rfl
theorem nX:∀b:List Dt,∀a∈b,bZ a=(cv a).bind b9
 | [],a,h=>by cases h
 | c::b,a,h=>by rcases dm h with h|h;(.rw[h];exact qq c);.exact nX b a h
end
def fY(a:List UInt8):Option Pl:=(nh (br a [] [])).bind bZ
theorem jg(a:List UInt8):(fv a).bind b9=fY a:=by
 rw[oM];unfold fY;cases nh (br a [] []) with
 | none=>rfl
 | some b=>exact(qq b).symm
theorem Dt.get{w:World}{l:List Dt}{a:Option Addr}{i:Nat}{t:Dt}(h:Dt.all w a l)(hi:l[i]?=some t):∃b off a2 c2,a=some ⟨b,off,none⟩/\(w.cell? ⟨b,off+i*3,none⟩=some (.bool t.k)/\w.cell? ⟨b,off+i*3+1,none⟩=some (.string t.s)/\w.cell? ⟨b,off+i*3+2,none⟩=some (.slice a2 t.l.length (t.l.length+c2)))/\Dt.all w a2 t.l:=by
 obtain⟨b,off,e,c⟩:=Dt.all_get h hi;cases t with
 | mk k s l'=>rw[Dt.at] at c;obtain⟨a2,c2,d,f⟩:=c;exact⟨b,off,a2,c2,e,d,f⟩
def tj(o:Option Int)(w:World)(e:Ending)(w':World):Prop:=Below w.heap.size w w'/\match o with
 | some x=>e=.returned (.tuple #[.int .i64 x,.bool true])
 | none=>∃x,e=.returned (.tuple #[.int .i64 x,.bool false])
theorem d2(d:Dt)(i:d.s.size<=1000000)(a:Option Addr)(c:Nat)(w:World)(g:GT w):Calls prog 59 #[d.val a c] w (tj (bO d) w):=by
 obtain⟨k,s,l⟩:=d;obtain⟨W1,hW1⟩:=al (w.alloc (.cells #[.bool k,.string s,.slice a l.length (l.length+c)] 46));have hba:Below w.heap.size w W1:=by rw[hW1];exact ae (ar _ w) _
 have f:W1.cell? ⟨w.heap.size,0,none⟩=some (.bool k):=by rw[hW1];simp[go_sem]
 have e1:W1.cell? ⟨w.heap.size,1,none⟩=some (.string s):=by rw[hW1];simp[go_sem]
 have A:W1.cell? ⟨w.heap.size,2,none⟩=some (.slice a l.length (l.length+c)):=by rw[hW1];simp[go_sem]
 have HB:=VV hba;have HW:=VV hW1.symm;rw[Dt.ad];have i:s.size<=1000000:=i;replace g:=g.aa hba;have HE0:=VV f;have HE1:=VV e1;simp only[Dt.k,Dt.s,Dt.l];generalize l.length+c=z at *;generalize l.length=B at *;clear hba hW1;cases b:Lib.parseIntB 64 s.data.toList with
 | ok v=>
  have HP:=VV ((Tryz.strconv_ParseInt_10_at64_ok s (by omega) v b W1).mono λe w' h=>(show e=.returned (.tuple #[.int .i64 v,.nilIface])/\Below W1.heap.size W1 w' from⟨h.1,by
   rcases h.2 with h|⟨t,h⟩
   .subst h;exact aN
   .subst h;exact Go.Joins.below_bytesWorld _ _ _ _ aV⟩))
  have m:=Lib.parseIntB_bounds b
  have HF:=VV λ(W:World) (y:Below W1.heap.size W1 W)=>ew v ⟨by simp at m;omega,by simp at m;omega⟩ W (g.aa y)
  obtain⟨M,j⟩:=al (bs (Lib.itoa v))
  rw[<-j] at HF
  cases k with
  | true=>
   clear b m g j i
   go_enter func59,ntmps59
   go_upto_region 1 with fail
   rw[U HW]
   go_upto_region 2 with (go_at_call 110;refine(U HP).mono ?_;rintro r w1 ⟨rfl,hb1⟩;have HB1:=VV hb1;have f:=aG (U HE0) hb1;have e1:=aG (U HE1) hb1;clear hb1)
   have u:=cell_regrown f
   have x:=cell_regrown e1
   refine wp_region_quiet_below (by kernel_rfl) (by kernel_rfl) ?_
   repeat (go_big_quiet_step (fail))
   refine wpQuiet_nil ?_
   intro w2 hw2
   have hB2:Below w1.heap.size w1 w2:=by obtain⟨p,rfl⟩:=hw2;exact below_regrown _ _ _
   clear hw2
   go_wp2
   go_ret2
   exact⟨ac (U HB) (ac (U HB1) hB2),v,rfl⟩
  | false=>
   by_cases n:M=s
   .have HZ:Hid (du s=some v):=by show _=_;unfold du;rw[b];show (if bs (Lib.itoa v)=s then some v else none)=_;rw[<-j,aR n]
    subst n
    clear b j m g i
    go_enter func59,ntmps59
    go_upto_region 1 with fail
    rw[U HW]
    go_upto_region 2 with (go_at_call 110;refine(U HP).mono ?_;rintro r w1 ⟨rfl,hb1⟩;have HB1:=VV hb1;have f:=aG (U HE0) hb1;have e1:=aG (U HE1) hb1;clear hb1)
    have u:=cell_regrown f
    have x:=cell_regrown e1
    refine wp_region_quiet_below (by kernel_rfl) (by kernel_rfl) ?_
    repeat (go_big_quiet_step ((go_at_call 84;exact Calls.regrown_of (U HF _ (ac (U HB1) (below_regrown _ _ _))))))
    refine wpQuiet_nil ?_
    intro w2 hw2
    have hB2:Below w1.heap.size w1 w2:=by obtain⟨p,rfl⟩:=hw2;exact below_regrown _ _ _
    clear hw2
    go_wp2
    go_ret2
    rw[show bO (.mk false M l)=some v from U HZ]
    exact⟨ac (U HB) (ac (U HB1) hB2),rfl⟩
   .have HZ:Hid (du s=none):=by show _=_;unfold du;rw[b];show (if bs (Lib.itoa v)=s then some v else none)=_;rw[<-j,aL n]
    have hne:=jz n
    clear b j m g n i
    go_enter func59,ntmps59
    go_upto_region 1 with fail
    rw[U HW]
    go_upto_region 2 with (go_at_call 110;refine(U HP).mono ?_;rintro r w1 ⟨rfl,hb1⟩;have HB1:=VV hb1;have f:=aG (U HE0) hb1;have e1:=aG (U HE1) hb1;clear hb1)
    have u:=cell_regrown f
    have x:=cell_regrown e1
    refine wp_region_quiet_below (by kernel_rfl) (by kernel_rfl) ?_
    repeat (go_big_quiet_step ((go_at_call 84;exact Calls.regrown_of (U HF _ (ac (U HB1) (below_regrown _ _ _))))))
    refine wpQuiet_nil ?_
    intro w2 hw2
    have hB2:Below w1.heap.size w1 w2:=by obtain⟨p,rfl⟩:=hw2;exact below_regrown _ _ _
    clear hw2
    go_wp2
    go_ret2
    rw[show bO (.mk false s l)=none from U HZ]
    exact⟨ac (U HB) (ac (U HB1) hB2),v,rfl⟩
 | «syntax»=>
  obtain⟨tp,q,o⟩:=g.s;have HP:=VV (Tryz.strconv_ParseInt_10_at64_syntax_var s (by omega) b tp q W1 o);have HZ:Hid (du s=none):=by show _=_;unfold du;rw[b]
  clear b g o i;skip;have HZ2:Hid (bO (.mk k s l)=none):=by show _=_;unfold bO;cases k;exact U HZ;rfl
  clear HZ;rw[U HZ2];cases k <;>
  (
   go_enter func59, ntmps59
   go_upto_region 1 with fail
   rw [U HW]
   go_upto_region 2 with (go_at_call 110; refine (U HP).mono ?_; rintro r w1 ⟨N, rfl, _, _, hb1⟩; have HB1 := VV hb1; have f := aG (U HE0) hb1; have e1 := aG (U HE1) hb1; clear hb1)
   have u := cell_regrown f
   have x := cell_regrown e1
   refine wp_region_quiet_below (by kernel_rfl) (by kernel_rfl) ?_
   repeat (go_big_quiet_step (fail))
   refine wpQuiet_nil ?_
   intro w2 hw2
   have hB2 : Below w1.heap.size w1 w2 := by obtain ⟨p, rfl⟩ := hw2; exact below_regrown _ _ _
   clear hw2
   go_wp2
   go_ret2
   exact ⟨ac (U HB) (ac (U HB1) hB2), _, rfl⟩)
 | range=>
  obtain⟨tp,q,o⟩:=g.r;have HP:=VV (Tryz.strconv_ParseInt_10_at64_range_var s (by omega) b tp q W1 o);have HZ:Hid (du s=none):=by show _=_;unfold du;rw[b]
  clear b g o i;generalize Lib.intSat 64 s.data.toList=sat at *;have HZ2:Hid (bO (.mk k s l)=none):=by show _=_;unfold bO;cases k;exact U HZ;rfl
  clear HZ;rw[U HZ2];cases k <;>
  (
   go_enter func59, ntmps59
   go_upto_region 1 with fail
   rw [U HW]
   go_upto_region 2 with (go_at_call 110; refine (U HP).mono ?_; rintro r w1 ⟨N, rfl, _, _, hb1⟩; have HB1 := VV hb1; have f := aG (U HE0) hb1; have e1 := aG (U HE1) hb1; clear hb1)
   have u := cell_regrown f
   have x := cell_regrown e1
   refine wp_region_quiet_below (by kernel_rfl) (by kernel_rfl) ?_
   repeat (go_big_quiet_step (fail))
   refine wpQuiet_nil ?_
   intro w2 hw2
   have hB2 : Below w1.heap.size w1 w2 := by obtain ⟨p, rfl⟩ := hw2; exact below_regrown _ _ _
   clear hw2
   go_wp2
   go_ret2
   exact ⟨ac (U HB) (ac (U HB1) hB2), _, rfl⟩)
def gi(w:World)(a:Option Addr)(l:List ByteArray):Prop:=∃b o,a=some ⟨b,o,none⟩/\∀i x,l[i]?=some x->w.cell? ⟨b,o+i,none⟩=some (.string x)
theorem bL(W:List ByteArray)(s:W.length<=1000)(x:ByteArray)(a:Option Addr)(c:Nat)(w:World)(r:gi w a W):Calls prog 53 #[.slice a W.length c,.string x] w λe w'=>e=.returned (.int .i64 (Lib.idxOfS W x))/\w'=w:=by
 obtain⟨b,o,rfl,l⟩:=r;obtain⟨n,j⟩:=al W.length;have HN:=VV j;rw[<-j] at s ⊢;have HC:=VV l;obtain⟨R,g⟩:=al (Lib.idxFromS W x 0);have HR0:Hid (R=Lib.idxFromS (W.drop 0) x 0):=g;unfold Lib.idxOfS;rw[<-g];clear j l g;go_enter func53,ntmps53;go_wp2;go_loopw[9] (λi wx=>∃k:Nat,k<=n/\i=.int .i64 k/\wx=w/\Hid (R=Lib.idxFromS (W.drop k) x k)) (λi wx=>n-(intOf i).toNat);case atStart=>exact⟨0,bf,rfl,rfl,HR0⟩
 case round=>obtain⟨k,hk1,rfl,rfl,HR⟩:=hrel;by_cases q:k<n;(·(have t:(k:Int)<(n:Int):=by omega);obtain⟨z,hz⟩:∃z,W[k]?=some z:=⟨_,ba (by rw[<-U HN];exact q)⟩;have hcell:=U HC k z hz;have d:=U HR;obtain⟨m,p⟩:=b6 hz;rw[hb m,p,Lib.idxFromS] at d;clear hz m p;by_cases f:z=x;(.rw[aR f] at d;subst f;have HRR:=VV d;clear d;go_wp2;go_ret;exact⟨by rw[U HRR];rfl,rfl⟩);.rw[aL f] at d;have hne:=jz f;have HRR:=VV d;clear d f;go_wp2;go_roundw;(case rel=>exact⟨k+1,by omega,by go_num,trivial,HRR⟩);case measure=>simp[intOf]<;>omega);·(have t:¬(k:Int)<(n:Int):=by omega);(have HRR:Hid (R=-1):=by show _=_;rw[U HR,dG (by rw[<-U HN];omega)];rfl);go_wp2;go_ret;exact⟨by rw[U HRR];rfl,rfl⟩
theorem cg(d:Dt)(a:Option Addr)(c:Nat)(w:World)(g:Dt.all w a d.l)(j:d.l.length<=1000000):Calls prog 54 #[d.val a c] w λe w'=>e=.returned (.string (headD d))/\Below w.heap.size w w':=by
 obtain⟨R,m⟩:=al (headD d);rw[<-m];obtain⟨k,s,l⟩:=d;simp only[Dt.ad,Dt.k,Dt.s,Dt.l] at *;obtain⟨n,i⟩:=al l.length;rw[<-i] at j ⊢;obtain⟨o,hcc⟩:=al (n+c);rw[<-hcc];obtain⟨W1,hW1⟩:=al (w.alloc (.cells #[.bool k,.string s,.slice a n o] 46));have hba:Below w.heap.size w W1:=by rw[hW1];exact ae (ar _ w) _
 have t:W1.cell? ⟨w.heap.size,0,none⟩=some (.bool k):=by rw[hW1];simp[go_sem]
 have e1:W1.cell? ⟨w.heap.size,1,none⟩=some (.string s):=by rw[hW1];simp[go_sem]
 have u:W1.cell? ⟨w.heap.size,2,none⟩=some (.slice a n o):=by rw[hW1];simp[go_sem]
 have HB:=VV hba;have HW:=VV hW1.symm;have g:=Dt.ab _ g hba;have HR:=VV m;clear hba hW1 m hcc;cases k with
 | false=>(have HZ:Hid (R=⟨#[]⟩):=by show _=_;rw[U HR];exact me s l);clear g j i;go_enter func54,ntmps54;go_upto_region 1 with fail;rw[U HW];go_wp2;go_ret;exact⟨by rw[U HZ];rfl,U HB⟩
 | true=>
  cases l with
  | nil=>
   have HZ:Hid (R=⟨#[]⟩):=by show _=_;rw[U HR];rfl
   have hn0:n=0:=i
   clear i
   subst hn0
   clear g j
   go_enter func54,ntmps54
   go_upto_region 1 with fail
   rw[U HW]
   go_wp2
   go_ret
   exact⟨by rw[U HZ];rfl,U HB⟩
  | cons h ps=>
   have hn1:1<=n:=by rw[i];simp
   have x:((n:Int) == 0)=false:=by rw[beq_eq_false_iff_ne];omega
   have i2:¬(n:Int)=0:=by omega
   have i3:(0:Int)<(n:Int):=by omega
   obtain⟨b,off,a2,c2,rfl,⟨p,q,r⟩,_⟩:=Dt.get g (show (h::ps)[0]?=some h from rfl)
   rw[show off+0*3=off by omega] at p q r
   have f:(h.k=true/\R=⟨#[]⟩)∨(h.k=false/\R=h.s):=by
    obtain⟨f,v,hl'⟩:=h
    cases f with
    | true=>exact .inl ⟨rfl,by rw[U HR];exact qM ..⟩
    | false=>exact .inr ⟨rfl,by rw[U HR];exact qL ..⟩
   clear g i j hn1 i2
   rcases f with ⟨f,hz⟩|⟨f,hz⟩ <;>
   (have HZ := VV hz
    rw [f] at p
    clear hz f
    go_enter func54, ntmps54
    go_upto_region 1 with fail
    rw [U HW]
    go_wp2
    go_ret
    exact ⟨by rw [U HZ]; rfl, U HB⟩)
mutual
def Dt.fin:Dt->Prop
 | .mk c b a=>b.size<=1000000/\(c=false->1<=b.size)/\a.length<=1000000/\Dt.ah a
def Dt.ah:List Dt->Prop
 | []=>True
 | b::a=>b.fin/\Dt.ah a
end
theorem Dt.af{a:Dt}(h:a.fin):a.s.size<=1000000/\(a.k=false->1<=a.s.size)/\a.l.length<=1000000/\Dt.ah a.l:=by
 cases a with
 | mk b d c=>rw[Dt.fin] at h;exact h
theorem Dt.ag:∀{b:List Dt} {c:Dt},Dt.ah b->c∈b->c.fin
 | [],_,_,h=>by cases h
 | d::b,c,h,a=>by rw[Dt.ah] at h;rcases dm a with rfl|a;(.exact h.1);.exact Dt.ag h.2 a
def iV{α b:Type}(g:Lk α)(i:α->b)(m:Option (List b))(a:World)(c:Ending)(f:World):Prop:=Bw a f/\match m with
 | some n=>∃e d,c=.returned (.tuple #[e,.bool true])/\d.map i=n/\GL g f a.heap.size e d
 | none=>∃j l k,c=.returned (.tuple #[.slice j l k,.bool false])
def kD(i:Option Ex)(d:World)(f:Ending)(e:World):Prop:=Bw d e/\match i with
 | some b=>∃a c,f=.returned (.tuple #[b.val a c,.bool true])/\SK (SN d.heap.size e) e λg=>Ex.all g a b.args
 | none=>∃b a c,f=.returned (.tuple #[Ex.val b a c,.bool false])
def cS(g:Option Pl)(c:World)(e:Ending)(d:World):Prop:=Bw c d/\match g with
 | some b=>∃a,e=.returned (.tuple #[b.val a,.bool true])/\SK (SN c.heap.size d) d λf=>dN f b a
 | none=>∃b a,e=.returned (.tuple #[Pl.val b a,.bool false])
variable{n:Nat}{w:World}{v:Value}
theorem en{d:Type}(a:Dt->Option d){b:List Dt}{c:Dt}(h:b[n]?=some c):aW ((b.drop n).map a)=(a c).bind λg=>(aW ((b.drop (n+1)).map a)).map λi=>g::i:=by obtain⟨e,f⟩:=b6 h;rw[hb e,f,bi,eA]
theorem fA(e:List Dt)(Wb:e.length<=1000000)(O:Option Addr)(V8:Nat)(c:World)(Q:Dt.all c O e) (M:∀(t:Nat) (d:Dt),e[t]?=some d->∀(o:Option Addr) (r:Nat) (n:World),Dt.all n o d.l->Bw c n->Calls prog 109 #[d.val o r] n (kD (d9 d) n)):Calls prog 57 #[.slice O e.length V8] c (iV ej Prod.fst (aW (e.map d9)) c):=by
 obtain⟨N,C⟩:=al (iV ej Prod.fst (aW (e.map d9)) c);rw[<-C];have L:=VV C;have Z:=VV Q;have VZ:=VV M;obtain⟨u,E⟩:=al e.length;have J:=VV E;rw[<-E] at Wb ⊢;have V3:=VV (GL.nil ej c c.heap.size);have VW:=VV (ar c.heap.size c);have V1:Hid (aW (e.map d9)=(aW ((e.drop 0).map d9)).map λv=>([]:List Xm).map Prod.fst++v):=by show _=_;rw[List.drop_zero];cases aW (e.map d9)<;>rfl
 clear C Q M E;go_enter func57,ntmps57;go_wp2_with fail;go_loopw[4,11] (λY t F=>∃(f:Nat) (j:List Xm),f<=u/\t=.int .i64 f/\Hid (GL ej F c.heap.size Y j)/\Hid (Bw c F)/\Hid (j.length=f)/\Hid (aW (e.map d9)=(aW ((e.drop f).map d9)).map λv=>j.map Prod.fst++v)) (λY t F=>u-(intOf t).toNat);case atStart=>exact⟨0,[],bf,rfl,V3,VW,rfl,V1⟩
 case round=>
  obtain⟨f,j,Wh,rfl,A,l,K,I⟩:=hrel;by_cases Wa:f<u
  .have Wd:(f:Int)<(u:Int):=by omega
   obtain⟨d,x⟩:∃d,e[f]?=some d:=⟨_,ba (by rw[<-U J];exact Wa)⟩
   have p:=U I
   rw[en d9 x] at p
   obtain⟨Wg,Wi,o,r,P,⟨Wj,Wk,Wl⟩,R⟩:=Dt.get (Dt.ab _ (U Z) (U l)) x
   have k:=ae (ar _ wr) (.cells #[.bool d.k,.string d.s,.slice o d.l.length (d.l.length+r)] 46)
   have y:=VV k
   have w:=VV (U VZ f d x o r (wr.alloc (.cells #[.bool d.k,.string d.s,.slice o d.l.length (d.l.length+r)] 46)) (Dt.ab _ R k) (ac (U l) k))
   obtain⟨We,V⟩:=al (d9 d)
   rw[<-V] at w p
   rw[Dt.ad] at w
   rw[P]
   clear P x R k V
   cases We with
   | none=>
    have B:Hid (N=iV ej Prod.fst none c):=by show _=_;rw[U L,p];rfl
    clear p
    go_wp2_with (go_at_call 109;refine(U w).mono ?_;rintro Wf m ⟨s,q,V7,V9,rfl⟩;rw[Ex.ad];have VX:=VV (ac s (ae (ar _ m) (.cells #[.int .i64 q.op,.int .i64 q.n,.int .i64 q.v.k,.int .i64 q.v.n,.string q.v.s,.slice V7 q.args.length V9] 72)));clear s)
    rw[U B]
    exact⟨ac (ac (U l) (U y)) (U VX),none,0,0,rfl⟩
   | some a=>
    have V2:Hid (∀G:Xm,Prod.fst G=a->aW (e.map d9)=(aW ((e.drop (f+1)).map d9)).map λv=>(j++[G]).map Prod.fst++v):=λG Wc=>by
     rw[p]
     simp only[Option.bind_some,fK,bX,bi,List.map_nil,Wc,d8,List.singleton_append]
    have V0:Hid (j.length+1<=1048577):=by show _<=_;rw[U K];omega
    clear p
    go_wp2_with (first
     | (go_at_call 109;refine(U w).mono ?_;rintro Wf m ⟨s,g,i,rfl,W⟩;rw[Ex.ad];have D:=ae (ar _ m) (.cells #[.int .i64 a.op,.int .i64 a.n,.int .i64 a.v.k,.int .i64 a.v.n,.string a.v.s,.slice g a.args.length i] 72);have k:=ae (ar _ (m.alloc (.cells #[.int .i64 a.op,.int .i64 a.n,.int .i64 a.v.k,.int .i64 a.v.n,.string a.v.s,.slice g a.args.length i] 72))) (.cells #[.int .i64 a.op,.int .i64 a.n,.int .i64 a.v.k,.int .i64 a.v.n,.string a.v.s,.slice g a.args.length i] 72);have V6:Hid (SK (NS ((m.alloc (.cells #[.int .i64 a.op,.int .i64 a.n,.int .i64 a.v.k,.int .i64 a.v.n,.string a.v.s,.slice g a.args.length i] 72)).alloc (.cells #[.int .i64 a.op,.int .i64 a.n,.int .i64 a.v.k,.int .i64 a.v.n,.string a.v.s,.slice g a.args.length i] 72)) c.heap.size u4) ((m.alloc (.cells #[.int .i64 a.op,.int .i64 a.n,.int .i64 a.v.k,.int .i64 a.v.n,.string a.v.s,.slice g a.args.length i] 72)).alloc (.cells #[.int .i64 a.op,.int .i64 a.n,.int .i64 a.v.k,.int .i64 a.v.n,.string a.v.s,.slice g a.args.length i] 72)) λn=>(ej).P n (a,g,i)):=SK.fresh (U A).lt (U l).size W (U y).size (ac D k);have z:=VV (ac (ac (ac (U y) s) D) k);have V4:=VV ((U A).aa (U z));clear s k D W)
     | (refine bK ej.ok _ rfl (.tmp 22) (.tmp 24) ej.t rfl rfl c.heap.size u4 j (a,g,i) (m.heap.size+1) rfl (U V4) (by simp[Act.eval,go_sem]) (U V6) (λX Wm b=>by
      match X,b with
      | 0,b=>simp[ej,cI] at b;subst b;simp[go_sem]
      | 1,b=>simp[ej,cI] at b;subst b;simp[go_sem]
      | 2,b=>simp[ej,cI] at b;subst b;simp[go_sem]
      | 3,b=>simp[ej,cI] at b;subst b;simp[go_sem]
      | 4,b=>simp[ej,cI] at b;subst b;simp[go_sem]
      | 5,b=>simp[ej,cI] at b;subst b;simp[go_sem]
      | X+6,b=>simp[ej,cI] at b) (U V0) (aQ (U l).size (U z).size) ?_;intro Wn Wo T S;have V5:=VV T;have VY:=VV ((ac (U l) (U z)).trans S);clear T S))
    go_roundw
    case rel=>exact⟨f+1,j++[(a,g,i)],by omega,by go_num,V5,VY,by show _=_;rw[bj,U K];rfl,U V2 (a,g,i) rfl⟩
    case measure=>simp[intOf]<;>omega
  ·(have Wd:¬(f:Int)<(u:Int):=by omega);(have B:Hid (N=iV ej Prod.fst (some (j.map Prod.fst)) c):=by show _=_;rw[U L,U I,dG (by rw[<-U J];omega)];show iV ej Prod.fst (some (j.map Prod.fst++[])) c=_;rw[d7]);go_wp2;rw[U B];exact⟨U l,_,j,rfl,rfl,U A⟩
theorem ci(f:List Dt)(V9:f.length<=1000000)(O:Option Addr)(V7:Nat)(d:World)(Q:Dt.all d O f) (M:∀(t:Nat) (e:Dt),f[t]?=some e->∀(p:Option Addr) (r:Nat) (o:World),Dt.all o p e.l->Bw d o->Calls prog 18 #[e.val p r] o (cS (bZ e) o)):Calls prog 55 #[.slice O f.length V7] d (iV eS Prod.fst (aW (f.map bZ)) d):=by
 obtain⟨N,C⟩:=al (iV eS Prod.fst (aW (f.map bZ)) d);rw[<-C];have L:=VV C;have Z:=VV Q;have VZ:=VV M;obtain⟨u,E⟩:=al f.length;have J:=VV E;rw[<-E] at V9 ⊢;have V3:=VV (GL.nil eS d d.heap.size);have VW:=VV (ar d.heap.size d);have V1:Hid (aW (f.map bZ)=(aW ((f.drop 0).map bZ)).map λv=>([]:List Pw).map Prod.fst++v):=by show _=_;rw[List.drop_zero];cases aW (f.map bZ)<;>rfl
 clear C Q M E;go_enter func55,ntmps55;go_wp2_with fail;go_loopw[4,11] (λY t F=>∃(g:Nat) (i:List Pw),g<=u/\t=.int .i64 g/\Hid (GL eS F d.heap.size Y i)/\Hid (Bw d F)/\Hid (i.length=g)/\Hid (aW (f.map bZ)=(aW ((f.drop g).map bZ)).map λv=>i.map Prod.fst++v)) (λY t F=>u-(intOf t).toNat);case atStart=>exact⟨0,[],bf,rfl,V3,VW,rfl,V1⟩
 case round=>
  obtain⟨g,i,Wf,rfl,A,m,K,I⟩:=hrel;by_cases V8:g<u
  .have Wb:(g:Int)<(u:Int):=by omega
   obtain⟨e,x⟩:∃e,f[g]?=some e:=⟨_,ba (by rw[<-U J];exact V8)⟩
   have q:=U I
   rw[en bZ x] at q
   obtain⟨We,Wg,p,r,P,⟨Wh,Wi,Wj⟩,R⟩:=Dt.get (Dt.ab _ (U Z) (U m)) x
   have l:=ae (ar _ wr) (.cells #[.bool e.k,.string e.s,.slice p e.l.length (e.l.length+r)] 46)
   have y:=VV l
   have w:=VV (U VZ g e x p r (wr.alloc (.cells #[.bool e.k,.string e.s,.slice p e.l.length (e.l.length+r)] 46)) (Dt.ab _ R l) (ac (U m) l))
   obtain⟨Wc,V⟩:=al (bZ e)
   rw[<-V] at w q
   rw[Dt.ad] at w
   rw[P]
   clear P x R l V
   cases Wc with
   | none=>
    have B:Hid (N=iV eS Prod.fst none d):=by show _=_;rw[U L,q];rfl
    clear q
    go_wp2_with (go_at_call 18;refine(U w).mono ?_;rintro Wd n ⟨s,j,k,rfl⟩;rw[Pl.ad];have VX:=VV (ac s (ae (ar _ n) (.cells #[.int .i64 j.op,.string j.tab,.slice k.aE j.ex.length k.cE,.slice k.aC j.cols.length k.cC,.slice k.aK j.keys.length k.cK,.slice k.aA j.aggs.length k.cA,.int .i64 j.fn,.int .i64 j.col,.int .i64 j.n,.int .i64 j.off,.slice k.aP j.args.length k.cP] 28)));clear s)
    rw[U B]
    exact⟨ac (ac (U m) (U y)) (U VX),none,0,0,rfl⟩
   | some a=>
    have V2:Hid (∀G:Pw,Prod.fst G=a->aW (f.map bZ)=(aW ((f.drop (g+1)).map bZ)).map λv=>(i++[G]).map Prod.fst++v):=λG Wa=>by
     rw[q]
     simp only[Option.bind_some,fK,bX,bi,List.map_nil,Wa,d8,List.singleton_append]
    have V0:Hid (i.length+1<=1048577):=by show _<=_;rw[U K];omega
    clear q
    go_wp2_with (first
     | (go_at_call 18;refine(U w).mono ?_;rintro Wd n ⟨s,b,rfl,W⟩;rw[Pl.ad];have D:=ae (ar _ n) (.cells #[.int .i64 a.op,.string a.tab,.slice b.aE a.ex.length b.cE,.slice b.aC a.cols.length b.cC,.slice b.aK a.keys.length b.cK,.slice b.aA a.aggs.length b.cA,.int .i64 a.fn,.int .i64 a.col,.int .i64 a.n,.int .i64 a.off,.slice b.aP a.args.length b.cP] 28);have l:=ae (ar _ (n.alloc (.cells #[.int .i64 a.op,.string a.tab,.slice b.aE a.ex.length b.cE,.slice b.aC a.cols.length b.cC,.slice b.aK a.keys.length b.cK,.slice b.aA a.aggs.length b.cA,.int .i64 a.fn,.int .i64 a.col,.int .i64 a.n,.int .i64 a.off,.slice b.aP a.args.length b.cP] 28))) (.cells #[.int .i64 a.op,.string a.tab,.slice b.aE a.ex.length b.cE,.slice b.aC a.cols.length b.cC,.slice b.aK a.keys.length b.cK,.slice b.aA a.aggs.length b.cA,.int .i64 a.fn,.int .i64 a.col,.int .i64 a.n,.int .i64 a.off,.slice b.aP a.args.length b.cP] 28);have V6:Hid (SK (NS ((n.alloc (.cells #[.int .i64 a.op,.string a.tab,.slice b.aE a.ex.length b.cE,.slice b.aC a.cols.length b.cC,.slice b.aK a.keys.length b.cK,.slice b.aA a.aggs.length b.cA,.int .i64 a.fn,.int .i64 a.col,.int .i64 a.n,.int .i64 a.off,.slice b.aP a.args.length b.cP] 28)).alloc (.cells #[.int .i64 a.op,.string a.tab,.slice b.aE a.ex.length b.cE,.slice b.aC a.cols.length b.cC,.slice b.aK a.keys.length b.cK,.slice b.aA a.aggs.length b.cA,.int .i64 a.fn,.int .i64 a.col,.int .i64 a.n,.int .i64 a.off,.slice b.aP a.args.length b.cP] 28)) d.heap.size u4) ((n.alloc (.cells #[.int .i64 a.op,.string a.tab,.slice b.aE a.ex.length b.cE,.slice b.aC a.cols.length b.cC,.slice b.aK a.keys.length b.cK,.slice b.aA a.aggs.length b.cA,.int .i64 a.fn,.int .i64 a.col,.int .i64 a.n,.int .i64 a.off,.slice b.aP a.args.length b.cP] 28)).alloc (.cells #[.int .i64 a.op,.string a.tab,.slice b.aE a.ex.length b.cE,.slice b.aC a.cols.length b.cC,.slice b.aK a.keys.length b.cK,.slice b.aA a.aggs.length b.cA,.int .i64 a.fn,.int .i64 a.col,.int .i64 a.n,.int .i64 a.off,.slice b.aP a.args.length b.cP] 28)) λo=>(eS).P o (a,b)):=SK.fresh (U A).lt (U m).size W (U y).size (ac D l);have z:=VV (ac (ac (ac (U y) s) D) l);have V4:=VV ((U A).aa (U z));clear s l D W)
     | (refine bK eS.ok _ rfl (.tmp 22) (.tmp 24) eS.t rfl rfl d.heap.size u4 i (a,b) (n.heap.size+1) rfl (U V4) (by simp[Act.eval,go_sem]) (U V6) (λX Wk c=>by
      match X,c with
      | 0,c=>simp[eS,bQ] at c;subst c;simp[go_sem]
      | 1,c=>simp[eS,bQ] at c;subst c;simp[go_sem]
      | 2,c=>simp[eS,bQ] at c;subst c;simp[go_sem]
      | 3,c=>simp[eS,bQ] at c;subst c;simp[go_sem]
      | 4,c=>simp[eS,bQ] at c;subst c;simp[go_sem]
      | 5,c=>simp[eS,bQ] at c;subst c;simp[go_sem]
      | 6,c=>simp[eS,bQ] at c;subst c;simp[go_sem]
      | 7,c=>simp[eS,bQ] at c;subst c;simp[go_sem]
      | 8,c=>simp[eS,bQ] at c;subst c;simp[go_sem]
      | 9,c=>simp[eS,bQ] at c;subst c;simp[go_sem]
      | 10,c=>simp[eS,bQ] at c;subst c;simp[go_sem]
      | X+11,c=>simp[eS,bQ] at c) (U V0) (aQ (U m).size (U z).size) ?_;intro Wl Wm T S;have V5:=VV T;have VY:=VV ((ac (U m) (U z)).trans S);clear T S))
    go_roundw
    case rel=>exact⟨g+1,i++[(a,b)],by omega,by go_num,V5,VY,by show _=_;rw[bj,U K];rfl,U V2 (a,b) rfl⟩
    case measure=>simp[intOf]<;>omega
  ·(have Wb:¬(g:Int)<(u:Int):=by omega);(have B:Hid (N=iV eS Prod.fst (some (i.map Prod.fst)) d):=by show _=_;rw[U L,U I,dG (by rw[<-U J];omega)];show iV eS Prod.fst (some (i.map Prod.fst++[])) d=_;rw[d7]);go_wp2;rw[U B];exact⟨U m,_,i,rfl,rfl,U A⟩
theorem GL.low{α:Type}{a:Lk α}{base m:Nat}{d:List α}(h:GL a w base v d)(c:m<=base):GL a w m v d:=
 ⟨⟨h.1.1,h.1.2.imp id λ⟨i,e,f,g,j,l⟩=>⟨i,e,f,g,aQ c j,l⟩⟩,λn k=>(h.2 n k).mono λo b=>⟨aQ c b.1,b.2⟩⟩
theorem hf(p:Dt)(V0:p.fin)(y:Option Addr)(W:Nat)(c:World)(VX:Dt.all c y p.l)(B:GT c):Calls prog 58 #[p.val y W] c (iV cF id (dM p) c):=by
 have L:=Dt.af V0;obtain⟨Wm,J⟩:=al (iV cF id (dM p) c);rw[<-J];have Wv:=L.2.2.1;obtain⟨d,V5,m⟩:=p;simp only[Dt.ad,Dt.k,Dt.s,Dt.l] at *;obtain⟨i,M⟩:=al m.length;rw[<-M] at Wv ⊢;obtain⟨X,VZ⟩:=al (i+W);rw[<-VZ];obtain⟨b,l⟩:=al (c.alloc (.cells #[.bool d,.string V5,.slice y i X] 46));have C:Bw c b:=by rw[l];exact ae (ar _ c) _
 have Wr:b.cell? ⟨c.heap.size,0,none⟩=some (.bool d):=by rw[l];simp[go_sem]
 have Ws:b.cell? ⟨c.heap.size,1,none⟩=some (.string V5):=by rw[l];simp[go_sem]
 have WF:b.cell? ⟨c.heap.size,2,none⟩=some (.slice y i X):=by rw[l];simp[go_sem]
 have E:=VV C;have Wl:=VV l.symm;have V7:=VV (Dt.ab _ VX C);have Wc:=VV L.2.2.2;replace B:=B.aa C;have Wd:=VV B;have S:=VV M;obtain⟨o,K⟩:=al (aW (m.map bO));have V:Hid (Wm=iV cF id (if d then o else none) c):=by show _=_;rw[J,K];cases d<;>rfl
 have Wf:Hid (o=(aW ((m.drop 0).map bO)).map λw=>([]:List Int).map id++w):=by show _=_;rw[K,List.drop_zero];cases aW (m.map bO)<;>rfl
 have Wh:=VV (GL.nil cF b b.heap.size);have V8:=VV (ar b.heap.size b);have Wb:=VV Wr;have u:c.heap.size<b.heap.size:=by rw[l];simp
 have WB:=VV u;clear J K VX C l VZ M B L V0 Ws u;go_enter func58,ntmps58;go_upto_region 1 with fail;rw[U Wl];go_wp2_with fail;go_loopw[4,12] (λV6 O P=>∃(d:Nat) (e:List Int),d<=i/\O=.int .i64 d/\Hid (GL cF P b.heap.size V6 e)/\Hid (Bw b P)/\Hid (e.length=d)/\Hid (o=(aW ((m.drop d).map bO)).map λw=>e.map id++w)) (λV6 O P=>i-(intOf O).toNat);case atStart=>exact⟨0,[],bf,rfl,Wh,V8,rfl,Wf⟩
 case round=>
  obtain⟨f,e,WG,rfl,G,k,T,R⟩:=hrel;by_cases Wt:f<i
  .have Wx:(f:Int)<(i:Int):=by omega
   obtain⟨a,D⟩:∃a,m[f]?=some a:=⟨_,ba (by rw[<-U S];exact Wt)⟩
   have r:=U R
   rw[en bO D] at r
   have V3:=Dt.ag (U Wc) (a8 D)
   obtain⟨WD,WI,z,A,Y,⟨WK,WL,WM⟩,Wu⟩:=Dt.get (Dt.ab _ (U V7) (U k)) D
   obtain⟨j,N⟩:=al (wr.alloc (.cells #[.bool a.k,.string a.s,.slice z a.l.length (a.l.length+A)] 46))
   have q:Bw wr j:=by rw[N];exact ae (ar _ wr) _
   have u:=(U Wd).aa (ac (U k) q)
   have g:=VV N.symm
   have Q:=VV q
   rw[Y]
   have x:=VV (d2 a (Dt.af V3).1 z A j u)
   obtain⟨Wy,V2⟩:=al (bO a)
   rw[<-V2] at x r
   rw[Dt.ad] at x
   clear Y D Wu q V2 N u V3
   cases Wy with
   | none=>
    have I:Hid (o=none):=r
    clear r
    go_upto_region 5 with fail
    rw[U g]
    have Wo:j.cell? ⟨wr.heap.size,0,none⟩=some (.bool a.k):=by rw[<-U g];simp[go_sem]
    have Wp:j.cell? ⟨wr.heap.size,1,none⟩=some (.string a.s):=by rw[<-U g];simp[go_sem]
    have Wq:j.cell? ⟨wr.heap.size,2,none⟩=some (.slice z a.l.length (a.l.length+A)):=by rw[<-U g];simp[go_sem]
    go_wp2_with (go_at_call 59;refine(U x).mono ?_;rintro Wz v ⟨t,WQ,rfl⟩;have V9:=VV t;clear t)
    rw[U V,U I]
    cases d<;>exact⟨ac (U E) (ac (ac (U k) (U Q)) (U V9)),none,0,0,rfl⟩
   | some n=>
    have Wg:Hid (o=(aW ((m.drop (f+1)).map bO)).map λw=>(e++[n]).map id++w):=by
     show _=_
     rw[r]
     simp only[Option.bind_some,fK,bX,bi,List.map_nil,id_eq,d8,List.singleton_append]
    have We:Hid (e.length+1<=1048577):=by show _<=_;rw[U T];omega
    clear r
    go_upto_region 5 with fail
    rw[U g]
    have Wo:j.cell? ⟨wr.heap.size,0,none⟩=some (.bool a.k):=by rw[<-U g];simp[go_sem]
    have Wp:j.cell? ⟨wr.heap.size,1,none⟩=some (.string a.s):=by rw[<-U g];simp[go_sem]
    have Wq:j.cell? ⟨wr.heap.size,2,none⟩=some (.slice z a.l.length (a.l.length+A)):=by rw[<-U g];simp[go_sem]
    go_wp2_with (first
     | (go_at_call 59;refine(U x).mono ?_;rintro Wz v ⟨t,rfl⟩;have q:=ae (ar _ v) (.cells #[.int .i64 n] 3);have Wk:Hid (SK (NS (v.alloc (.cells #[.int .i64 n] 3)) b.heap.size u4) (v.alloc (.cells #[.int .i64 n] 3)) λWn=>(cF).P Wn n):=λ_ _=>trivial;have F:=VV (ac (ac (U Q) t) q);have Wi:=VV ((U G).aa (U F));clear t q)
     | (refine bK cF.ok _ rfl (.tmp 23) (.tmp 25) cF.t rfl rfl b.heap.size u4 e n v.heap.size rfl (U Wi) (by simp [Act.eval, go_sem]) (U Wk) (λf WN s => by
             match f, s with
             | 0, s => simp [cF] at s; subst s; simp [go_sem]
             | f + 1, s => simp [cF] at s) (U We) (aQ (U k).size (U F).size) ?_; intro WO WP V1 VY; have Wj := VV V1; have Wa := VV ((ac (U k) (U F)).trans VY); clear V1 VY))
    go_roundw
    case rel=>exact⟨f+1,e++[n],by omega,by go_num,Wj,Wa,by show _=_;rw[bj,U T];rfl,Wg⟩
    case measure=>simp[intOf]<;>omega
  .have Wx:¬(f:Int)<(i:Int):=by omega
   have I:Hid (o=some e):=by
    show _=_
    rw[U R,dG (by rw[<-U S];omega)]
    show some (e.map id++[])=_
    rw[d7,List.map_id]
   have WH:=cell_regrown (aG (U Wb) (U k))
   have Ww:=U G
   obtain⟨WC,WE,rfl,_⟩:=Ww.node cF.ok
   go_upto_region 10 with fail
   refine wp_region_quiet_below (by kernel_rfl) (by kernel_rfl) ?_
   repeat (go_big_quiet_step (fail))
   refine wpQuiet_nil ?_
   intro WA V4
   have Z:Bw wr WA:=by obtain⟨WJ,rfl⟩:=V4;exact below_regrown _ _ _
   clear V4
   go_wp2
   rw[U V,U I]
   have VW:=ac (U E) (ac (U k) Z)
   cases d with
   | true=>exact⟨VW,_,e,rfl,List.map_id _,((U G).aa Z).low (U E).size⟩
   | false=>exact⟨VW,_,_,_,rfl⟩
end Go.Proofs.YtabmgpillccfaaaGreatDoor

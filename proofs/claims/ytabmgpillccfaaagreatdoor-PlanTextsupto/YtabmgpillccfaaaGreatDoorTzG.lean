import Derived.Test.YtabmgpillccfaaaGreatDoorTzB
set_option linter.all false
set_option maxHeartbeats 1000000
set_option maxRecDepth 100000
namespace Go.Proofs.YtabmgpillccfaaaGreatDoor
open Go.RowKit Go.Sort Go.Proofs.Tryz
theorem jH{o:Array Oper}{rest:List Oper}{b:Oper}{f:Act}{m:Exit->Act->World->Prop}(a:World)(u:b.guard=none)(k l:Operand)(w:b.op=.call { callee:=.builtin .append,args:=#[k,l],argTypes:=#[49,49] }) (base:Nat) (c:Value) (g:List Tt) (e:Tp) (j:Nat) (z:f.eval k=c) (x:TL a base c g) (A:f.eval l=.slice (some ⟨j,0,none⟩) 1 1) (B:Tt.aj (r7 a base c) a e.2.1 e.1.l) (t:∀n p,(eI e)[n]?=some p->a.cell? ⟨j,n,none⟩=some p) (v:g.length+1<=1099511627776) (s:base<=a.heap.size) (h:∀i d,TL d base i (g++[e.1])->Below base a d->wpList prog o m rest (f.put b.dst i) d):wpList prog o m (b::rest) f a:=by obtain⟨i,d,y,q,r⟩:=TL.push a b.type base c g x e B j t v s;exact di u k l 49 w c _ z A y (h i d q r)
variable{W X w:World}{v:Value}{k m n:Nat}{a:Option Addr}{P:Nat->Prop}{C:List Int}
theorem TL.lt{base:Nat}{d:List Tt}(h:TL w base v d):∀a,v.ownBlock=some a->a<w.heap.size:=by obtain⟨e,_,c,_⟩:=h;exact λa b=>(World.ownsRow.lt c a b).2
theorem TL.fresh{wr:World}{base:Nat}{g d:List Tt}(h:TL wr base v g)(k:base<=wr.heap.size)(f:Tt.aj (λb=>n<=b/\b<w.heap.size) w a d)(i:wr.heap.size<=n)(c:Bw w W):Tt.aj (r7 W base v) W a d:=
 Tt.aq (Tt.au f c) λb j=>⟨by omega,by have:=c.size;omega,λe=>by have:=h.lt b e;omega⟩
theorem mo{d:Tt}(f:w.cell? ⟨n,0,none⟩=some (.int .i64 d.k))(g:w.cell? ⟨n,1,none⟩=some (.string d.s))(i:w.cell? ⟨n,2,none⟩=some (.slice a d.l.length (d.l.length+m))):∀c e,(eI (d,a,m))[c]?=some e->w.cell? ⟨n,c,none⟩=some e:=λc e b=>by
 match c,b with
 | 0,b=>simp[eI] at b;subst b;exact f
 | 1,b=>simp[eI] at b;subst b;exact g
 | 2,b=>simp[eI] at b;subst b;exact i
 | c+3,b=>simp[eI] at b
theorem TL.gr{base:Nat}{c:List Tt}(h:TL w base v c)(a:Gr w W n)(i:n<base):TL W base v c:=by obtain⟨m,d,e,f⟩:=h;refine⟨m,d,Gr.own e a i,λo k=>?_⟩;exact Tt.ak (λl p q g j=>a.cell (by have:=g.1;omega) j) (λl b=>⟨b.1,be b.2.1 a.size,b.2.2⟩) _ (f o k)
mutual
def dQ:Nat->List UInt8->Option (Tt×List UInt8)
 | 0,_=>none
 | c+1,a=>if eZ 40 (bD a) then (dU c (fR 40 (bD a))).map λb=>(.mk 3 ⟨#[]⟩ b.1,b.2) else if eZ 34 (bD a) then g7 (fR 34 (bD a)) else fa (bD a)
def dU:Nat->List UInt8->Option (List Tt×List UInt8)
 | 0,_=>none
 | b+1,a=>if eZ 41 (bD a) then some ([],fR 41 (bD a)) else match dQ b (bD a) with
  | none=>none
  | some d=>(dU b d.2).map λc=>(d.1::c.1,c.2)
end
theorem ez(a:List UInt8):(bD a).length<=a.length:=by unfold bD Lib.trimLeftS;exact(List.dropWhile_sublist _).length_le
theorem fb{b:UInt8}{a:List UInt8}(h:eZ b a=true):(fR b a).length+1=a.length:=by
 unfold fR Lib.trimPrefix;rw[show Lib.hasPrefix a [b]=true from h,aR rfl];cases a with
 | nil=>cases h
 | cons c a=>simp
theorem ia:∀(b:Nat) (a:List UInt8),a.length<=b->∀{c:List UInt8×List UInt8},cz a=some c->c.2.length<a.length
 | 0,a,e,c,h=>by have:a=[]:=eV (by omega);subst this;simp[cz] at h
 | b+1,[],e,c,h=>by simp[cz] at h
 | b+1,i::a,e,c,h=>by
  rw[a1] at e ⊢;by_cases j:i=34;.subst j;rw[gN] at h;injection h with h;rw[<-h];show a.length<_;omega
  by_cases k:i=92
  .subst k
   rw[d1] at h
   cases d:fO a with
   | none=>rw[d] at h;cases h
   | some l=>
    obtain⟨o,m⟩:=l
    rw[d] at h
    have n:=jw d
    obtain⟨g,f,rfl⟩:=Option.map_eq_some_iff.1 h
    have:=ia b m (by omega) f
    show g.2.length<_;omega
  rw[ey a j k] at h;split at h;.obtain⟨g,f,rfl⟩:=Option.map_eq_some_iff.1 h;have:=ia b a (by omega) f;show g.2.length<_;omega
  .cases h
theorem lr:∀(d:Nat),(∀a b,dQ d a=some b->b.2.length<a.length)/\∀a b,dU d a=some b->b.2.length<a.length:=by
 intro d;induction d with
 | zero=>exact⟨λa b h=>(by rw[dQ] at h;exact nomatch h),λa b h=>(by rw[dU] at h;exact nomatch h)⟩
 | succ d i=>
  refine⟨λa b h=>?_,λa b h=>?_⟩;.rw[dQ] at h;have k:=ez a;split at h;(.rename_i c;have:=fb c;obtain⟨f,e,rfl⟩:=Option.map_eq_some_iff.1 h;have:=i.2 _ _ e;show f.2.length<_;omega);split at h;(.rename_i c;have:=fb c;unfold g7 at h;obtain⟨f,e,rfl⟩:=Option.map_eq_some_iff.1 h;have:=ia _ _ aV e;show f.2.length<_;omega);.unfold fa at h;split at h;(.cases h);.rename_i c;injection h with h;subst h;show (List.dropWhile bn (bD a)).length<_;have j:=congrArg List.length (List.takeWhile_append_dropWhile (p:=bn) (l:=bD a));rw[bj] at j;have:(bD a).takeWhile bn≠[]:=c;have:=List.length_pos_iff.2 this;omega
  .rw[dU] at h;have k:=ez a;split at h;.rename_i c;have:=fb c;injection h with h;subst h;show (fR 41 (bD a)).length<_;omega
   .cases g:dQ d (bD a) with
    | none=>rw[g] at h;cases h
    | some l=>
     rw[g] at h
     simp only at h
     obtain⟨f,e,rfl⟩:=Option.map_eq_some_iff.1 h
     have c:=i.1 _ _ g
     have j:=i.2 _ _ e
     show f.2.length<_;omega
theorem kL{j:List UInt8}{g:Tt}(p:Gr w W n)(q:Gr W X n)(r:Rd X n j)(l:Tt.aj (λb=>W.heap.size<=b/\b<X.heap.size) X a g.l)(s:m<W.heap.size)(i:w.heap.size<=m)(o:n<w.heap.size)(c d e:Value):iK (some (g,j)) n w (.returned (.tuple #[g.val a k,.bool true])) (((X.setCell ⟨m,0,none⟩ c).setCell ⟨m,1,none⟩ d).setCell ⟨m,2,none⟩ e):=by refine⟨(p.trans q).aF i c d e,a,k,rfl,r.aF (be o i) c d e,?_⟩;exact Tt.ak (S:=λb=>m+1<=b/\b<X.heap.size) (d4 X m c d e) (λb f=>⟨by omega,be f.2 (by simp)⟩) _ (Tt.aq l λb f=>⟨by omega,f.2⟩)
theorem iP(i:Gr w W n)(j:Gr W X n)(a:∃b,Rd X n b)(f:w.heap.size<=m)(g:n<w.heap.size)(c d e:Value):iK none n w (.returned (.tuple #[fs,.bool false])) (((X.setCell ⟨m,0,none⟩ c).setCell ⟨m,1,none⟩ d).setCell ⟨m,2,none⟩ e):=by obtain⟨b,a⟩:=a;exact⟨(i.trans j).aF f c d e,rfl,b,a.aF (be g f) c d e⟩
def qy(b:Option (List Tt×List UInt8)):Option (Tt×List UInt8):=b.map λa=>(.mk 3 ⟨#[]⟩ a.1,a.2)
theorem dJ(a:Nat)(b:UInt8)(c:List UInt8)(f:Bool)(i:eZ b c=f)(d:World)(h:Rd d a c):Calls prog 87 #[.pointer (some ⟨a,0,none⟩),.string ⟨#[b]⟩] d λg e=>g=.returned (.bool f)/\Rd e a (fR b c)/\Gr d e a:=by subst i;exact VG a b c d h
theorem nM{b:UInt8}{a:List UInt8}(h:eZ b a=false):fR b a=a:=by unfold fR Lib.trimPrefix;rw[show Lib.hasPrefix a [b]=false from h];rfl
theorem oC(P:Nat)(V1:∀p a n,Rd n a p->p.length<=1000000->2*p.length+2<=P->Calls prog 88 #[.pointer (some ⟨a,0,none⟩)] n (iK (qy (dU P p)) a n))(p:List UInt8)(a:Nat)(n:World)(h:Rd n a p)(V8:p.length<=1000000)(V9:2*p.length+1<=P+1):Calls prog 47 #[.pointer (some ⟨a,0,none⟩)] n (iK (dQ (P+1) p) a n):=by
 obtain⟨E,l⟩:=al (dQ (P+1) p);rw[<-l];rw[dQ] at l;obtain⟨Wg,V5⟩:=al (iK E a n);rw[<-V5];have N:=VV V5;have V3:=ez p;obtain⟨d,Wa⟩:=al (bD p);rw[<-Wa] at l V3;have We:=h.lt;obtain⟨V2,Y⟩:=bq (n.alloc (.cells #[.int .i64 0,.string ⟨#[]⟩,.slice none 0 0] 51));have V6:Bw n V2:=by rw[<-Y];exact ae aN _
 have O:=VV (show RT V2 n.heap.size by rw[<-Y];exact RT.new n);have V7:=gw a p V2 (h.aa V6);rw[<-Wa] at V7;have M:=VV V7;have L:=VV (Gr.of_below V6 a);have K:=VV We;have V4:Hid (n.heap.size<V2.heap.size):=by show _<_;rw[<-Y];simp
 have q:=VV Y;have J:Hid (n.heap.size≠a):=λWh=>by omega
 clear V5 V6 h Y We V7 Wa;cases r:eZ 40 d with
 | true=>
  rw[r] at l
  rw[aR rfl] at l
  have Wd:E=qy (dU P (fR 40 d)):=l
  clear l
  have D:Hid (∀f,Rd f a (fR 40 d)->Calls prog 88 #[.pointer (some ⟨a,0,none⟩)] f (iK E a f)):=λf X=>Wd ▸ V1 (fR 40 d) a f X (by have:=fb r;omega) (by have:=fb r;omega)
  clear V8 V9 V1 V3 Wd
  cases E with
  | none=>
   go_enter func47,ntmps47
   go_upto_region 1 with fail
   rw[U q]
   clear q
   go_wp2_with (first
    | (go_at_call 48;refine(U M).mono ?_;rintro VX y ⟨rfl,g,i⟩;have e:=VV (dJ a 40 d true r y g);have s:=VV i;clear g i)
    | (go_at_call 87;refine(U e).mono ?_;rintro VY z ⟨rfl,c,k⟩;clear e;have u:=VV c;have b:=VV ((U s).trans k);clear c k)
    | (go_at_call 88;refine(U D z (U u)).mono ?_;rintro VZ V0 ⟨j,rfl,w⟩;obtain⟨A,B,C,T,V,W⟩:=(U O).gr ((U b).trans j) (U J)))
   refine aM (v:=.tuple #[fs,.bool false]) (by simp[results,results47,go_sem,A,B,C]) rfl ?_
   rw[U N]
   exact iP ((U L).trans (U b)) j w aV (U K) _ _ _
  | some VW=>
   obtain⟨o,Wf⟩:=VW
   go_enter func47,ntmps47
   go_upto_region 1 with fail
   rw[U q]
   clear q
   go_wp2_with (first
    | (go_at_call 48;refine(U M).mono ?_;rintro VX y ⟨rfl,g,i⟩;have e:=VV (dJ a 40 d true r y g);have s:=VV i;clear g i)
    | (go_at_call 87;refine(U e).mono ?_;rintro VY z ⟨rfl,c,k⟩;clear e;have u:=VV c;have b:=VV ((U s).trans k);clear c k)
    | (go_at_call 88;refine(U D z (U u)).mono ?_;rintro VZ V0 ⟨j,R,S,rfl,w,Z⟩;rw[Tt.ad];obtain⟨A,B,C,T,V,W⟩:=(U O).gr ((U b).trans j) (U J)))
   refine aM (v:=.tuple #[.agg #[.int .i64 o.k,.string o.s,.slice R o.l.length (o.l.length+S)],.bool true]) (by simp[results,results47,go_sem,A,B,C]) rfl ?_
   rw[U N]
   exact kL ((U L).trans (U b)) j w Z (be (U V4) (U b).size) aV (U K) _ _ _
 | false=>
  rw[r] at l
  cases F:eZ 34 d with
  | true=>
   rw[F] at l
   rw[aL (by decide),aR rfl] at l
   have Q:=VV (nM r)
   have D:Hid (∀f,Rd f a (fR 34 d)->Calls prog 89 #[.pointer (some ⟨a,0,none⟩)] f (iK E a f)):=λf X=>l ▸ rq a (fR 34 d) f X (by have:=fb F;omega)
   clear l V8 V9 V1 V3
   cases E with
   | none=>
    go_enter func47,ntmps47
    go_upto_region 1 with fail
    rw[U q]
    clear q
    go_wp2_with (first
     | (go_at_call 48;refine(U M).mono ?_;rintro VX y ⟨rfl,g,i⟩;have e:=VV (dJ a 40 d false r y g);have s:=VV i;clear g i)
     | (go_at_call 87;refine(U e).mono ?_;rintro VY I ⟨rfl,m,x⟩;clear e;rw[U Q] at m;have t:=VV (dJ a 34 d true F I m);have G:=VV ((U s).trans x);clear m x)
     | (go_at_call 87;refine(U t).mono ?_;rintro Wb z ⟨rfl,c,k⟩;clear t;have u:=VV c;have b:=VV ((U G).trans k);clear c k)
     | (go_at_call 89;refine(U D z (U u)).mono ?_;rintro VZ V0 ⟨j,rfl,w⟩;obtain⟨A,B,C,T,V,W⟩:=(U O).gr ((U b).trans j) (U J)))
    refine aM (v:=.tuple #[fs,.bool false]) (by simp[results,results47,go_sem,A,B,C]) rfl ?_
    rw[U N]
    exact iP ((U L).trans (U b)) j w aV (U K) _ _ _
   | some VW=>
    obtain⟨o,Wf⟩:=VW
    go_enter func47,ntmps47
    go_upto_region 1 with fail
    rw[U q]
    clear q
    go_wp2_with (first
     | (go_at_call 48;refine(U M).mono ?_;rintro VX y ⟨rfl,g,i⟩;have e:=VV (dJ a 40 d false r y g);have s:=VV i;clear g i)
     | (go_at_call 87;refine(U e).mono ?_;rintro VY I ⟨rfl,m,x⟩;clear e;rw[U Q] at m;have t:=VV (dJ a 34 d true F I m);have G:=VV ((U s).trans x);clear m x)
     | (go_at_call 87;refine(U t).mono ?_;rintro Wb z ⟨rfl,c,k⟩;clear t;have u:=VV c;have b:=VV ((U G).trans k);clear c k)
     | (go_at_call 89;refine(U D z (U u)).mono ?_;rintro VZ V0 ⟨j,R,S,rfl,w,Z⟩;rw[Tt.ad];obtain⟨A,B,C,T,V,W⟩:=(U O).gr ((U b).trans j) (U J)))
    refine aM (v:=.tuple #[.agg #[.int .i64 o.k,.string o.s,.slice R o.l.length (o.l.length+S)],.bool true]) (by simp[results,results47,go_sem,A,B,C]) rfl ?_
    rw[U N]
    exact kL ((U L).trans (U b)) j w Z (be (U V4) (U b).size) aV (U K) _ _ _
  | false=>
   rw[F] at l
   rw[aL (by decide),aL (by decide)] at l
   have Q:=VV (nM r)
   have Wc:=VV (nM F)
   have D:Hid (∀f,Rd f a d->Calls prog 90 #[.pointer (some ⟨a,0,none⟩)] f (iK E a f)):=λf X=>l ▸ rm a d f X (by omega)
   clear l V8 V9 V1 V3
   cases E with
   | none=>
    go_enter func47,ntmps47
    go_upto_region 1 with fail
    rw[U q]
    clear q
    go_wp2_with (first
     | (go_at_call 48;refine(U M).mono ?_;rintro VX y ⟨rfl,g,i⟩;have e:=VV (dJ a 40 d false r y g);have s:=VV i;clear g i)
     | (go_at_call 87;refine(U e).mono ?_;rintro VY I ⟨rfl,m,x⟩;clear e;rw[U Q] at m;have t:=VV (dJ a 34 d false F I m);have G:=VV ((U s).trans x);clear m x)
     | (go_at_call 87;refine(U t).mono ?_;rintro Wb z ⟨rfl,c,k⟩;clear t;rw[U Wc] at c;have u:=VV c;have b:=VV ((U G).trans k);clear c k)
     | (go_at_call 90;refine(U D z (U u)).mono ?_;rintro VZ V0 ⟨j,rfl,w⟩;obtain⟨A,B,C,T,V,W⟩:=(U O).gr ((U b).trans j) (U J)))
    refine aM (v:=.tuple #[fs,.bool false]) (by simp[results,results47,go_sem,A,B,C]) rfl ?_
    rw[U N]
    exact iP ((U L).trans (U b)) j w aV (U K) _ _ _
   | some VW=>
    obtain⟨o,Wf⟩:=VW
    go_enter func47,ntmps47
    go_upto_region 1 with fail
    rw[U q]
    clear q
    go_wp2_with (first
     | (go_at_call 48;refine(U M).mono ?_;rintro VX y ⟨rfl,g,i⟩;have e:=VV (dJ a 40 d false r y g);have s:=VV i;clear g i)
     | (go_at_call 87;refine(U e).mono ?_;rintro VY I ⟨rfl,m,x⟩;clear e;rw[U Q] at m;have t:=VV (dJ a 34 d false F I m);have G:=VV ((U s).trans x);clear m x)
     | (go_at_call 87;refine(U t).mono ?_;rintro Wb z ⟨rfl,c,k⟩;clear t;rw[U Wc] at c;have u:=VV c;have b:=VV ((U G).trans k);clear c k)
     | (go_at_call 90;refine(U D z (U u)).mono ?_;rintro VZ V0 ⟨j,R,S,rfl,w,Z⟩;rw[Tt.ad];obtain⟨A,B,C,T,V,W⟩:=(U O).gr ((U b).trans j) (U J)))
    refine aM (v:=.tuple #[.agg #[.int .i64 o.k,.string o.s,.slice R o.l.length (o.l.length+S)],.bool true]) (by simp[results,results47,go_sem,A,B,C]) rfl ?_
    rw[U N]
    exact kL ((U L).trans (U b)) j w Z (be (U V4) (U b).size) aV (U K) _ _ _
theorem VD(n:Nat)(Wk:∀d,d<=n->∀c a b,Rd b a c->c.length<=1000000->2*c.length+1<=d->Calls prog 47 #[.pointer (some ⟨a,0,none⟩)] b (iK (dQ d c) a b))(c:List UInt8)(a:Nat)(b:World)(h:Rd b a c)(Ws:c.length<=1000000)(Wu:2*c.length+2<=n+1):Calls prog 88 #[.pointer (some ⟨a,0,none⟩)] b (iK (qy (dU (n+1) c)) a b):=by
 obtain⟨L,VX⟩:=al (dU (n+1) c);rw[<-VX];obtain⟨Wl,VY⟩:=al (iK (qy L) a b);rw[<-VY];have We:=VV VY;have WG:=VV Wk;have V1:=h.lt;obtain⟨w,E⟩:=bq (b.alloc (.cells #[.int .i64 0,.string ⟨#[]⟩,.slice none 0 0] 51));have VZ:Bw b w:=by rw[<-E];exact ae aN _
 have WW:=VV (show RT w b.heap.size by rw[<-E];exact RT.new b);have WU:=VV (h.aa VZ);have WE:=VV (Gr.of_below VZ a);have V8:=VV V1;have D:Hid (b.heap.size<w.heap.size):=by show _<_;rw[<-E];simp
 have Wj:=VV E;obtain⟨base,V0⟩:=al w.heap.size;rw[<-V0] at D;have WR:=VV (TL.nil w base);have WC:Hid (base<=w.heap.size):=Nat.le_of_eq V0;have P:Hid (a<base):=Nat.lt_trans V1 (U D);have Q:Hid (b.heap.size≠a):=λW7=>by omega
 have WK:Hid (L=(dU (n+1) c).map λj=>([]++j.1,j.2)):=by show _=_;rw[VX];cases dU (n+1) c<;>rfl
 have WP:=VV Wu;have Wc:=VV Ws;clear VY VZ h E V0 V1 VX Wk Wu Ws;go_enter func88,ntmps88;go_upto_region 1 with fail;rw[U Wj];clear Wj;go_wp2_with fail;go_loopw[4] (λV3 wr=>∃(d:Nat) (m:List UInt8) (e:List Tt),Hid (d<=n)/\Hid (TL wr base V3 e)/\Hid (Rd wr a m)/\Hid (Gr b wr a)/\Hid (RT wr b.heap.size)/\Hid (base<=wr.heap.size)/\Hid (m.length<=c.length)/\Hid (2*m.length+2<=d+1)/\Hid (e.length+m.length<=c.length)/\Hid (L=(dU (d+1) m).map λj=>(e++j.1,j.2))) (λ_ wr=>sf wr a);case atStart=>exact⟨n,c,[],aV,WR,WU,WE,WW,WC,aV,WP,by show _<=_;simp,WK⟩
 case round=>
  obtain⟨d,m,e,Wd,V,Wg,R,X,Wh,Wb,Wa,V7,WJ⟩:=hrel
  have WM:=VV (U Wg).meas
  have N:=ez m
  have l:=gw a m wr (U Wg)
  obtain⟨o,F⟩:=al (bD m)
  rw[<-F] at l N
  have T:=VV l
  have g:=U WJ
  rw[dU,<-F] at g
  cases x:eZ 41 o with
  | true=>
   rw[x,aR rfl] at g
   obtain⟨Wn,cv,rfl,Wp⟩:=(U V).node
   have WB:=VV Wp
   obtain⟨Ww,V2⟩:=al e.length
   have WQ:=VV V2
   rw[<-V2]
   have Y:Hid (Wl=iK (some (.mk 3 ⟨#[]⟩ e,fR 41 o)) a b):=by show _=_;rw[U We,g];show iK (some (.mk 3 ⟨#[]⟩ (e++[]),fR 41 o)) a b=_;rw[d7]
   clear g l F Wp V2 N
   go_wp2_with (first
    | (go_at_call 48;refine(U T).mono ?_;rintro Wx I ⟨rfl,q,s⟩;have p:=VV (dJ a 41 o true x I q);have B:=VV s;clear q s)
    | (go_at_call 87;refine(U p).mono ?_;rintro Wy A ⟨rfl,i,t⟩;clear p;have C:=VV i;have k:=VV ((U B).trans t);obtain⟨V4,V5,V6,WZ,W0,W1⟩:=(U X).gr (U k) (U Q);clear i t))
   refine aM (v:=.tuple #[.agg #[.int .i64 3,.string ⟨#[]⟩,.slice Wn Ww (Ww+cv)],.bool true]) (by simp[results,results88,go_sem,V4,V5,V6]) rfl ?_
   rw[U Y,U WQ]
   have W8:=U D
   refine⟨((U R).trans (U k)).aF aV _ _ _,Wn,cv,rfl,(U C).aF (U V8) _ _ _,?_⟩
   exact Tt.ak (S:=λu=>b.heap.size+1<=u/\u<A.heap.size) (d4 A b.heap.size _ _ _) (λu l=>⟨by omega,be l.2 (by simp)⟩) _ (Tt.ak (S:=λu=>base<=u/\u<wr.heap.size) (λu W9 Xa W2 W4=>(U k).cell (by have:=W2.1;have:=U P;omega) W4) (λu l=>⟨by omega,be l.2 (U k).size⟩) _ (U WB))
  | false=>
   rw[x,aL (by decide)] at g
   have V9:=VV (nM x)
   cases d with
   | zero=>exact absurd (U Wa) (by omega)
   | succ d=>
   have Wr:=U Wa
   have K:=VV λ(Wm:World) (W3:Rd Wm a o)=>U WG (d+1) (U Wd) o a Wm W3 (by have:=U Wc;have:=U Wb;omega) (by omega)
   cases G:dQ (d+1) o with
   | none=>
    rw[G] at g K
    have Y:Hid (Wl=iK none a b):=by show _=_;rw[U We,g];rfl
    clear g l F N G Wr
    go_wp2_with (first
     | (go_at_call 48;refine(U T).mono ?_;rintro Wx I ⟨rfl,q,s⟩;have p:=VV (dJ a 41 o false x I q);have B:=VV s;clear q s)
     | (go_at_call 87;refine(U p).mono ?_;rintro Wy A ⟨rfl,i,t⟩;clear p;rw[U V9] at i;have C:=VV i;have k:=VV ((U B).trans t);clear i t)
     | (go_at_call 47;refine(U K A (U C)).mono ?_;rintro W6 O ⟨M,rfl,y⟩;have r:=ae (ar _ O) (.cells #[.int .i64 0,.string ⟨#[]⟩,.slice none 0 0] 51);have v:=VV (((U k).trans M).trans (Gr.of_below r a));obtain⟨V4,V5,V6,WZ,W0,W1⟩:=(U X).gr (U v) (U Q);obtain⟨W5,y⟩:=y;have W:=VV (y.aa r);clear r))
    refine aM (v:=.tuple #[fs,.bool false]) (by simp[results,results88,go_sem,V4,V5,V6]) rfl ?_
    rw[U Y]
    exact iP (U R) (U v) ⟨W5,U W⟩ aV (U V8) _ _ _
   | some j=>
    obtain⟨f,z⟩:=j
    have Wv:=(lr (d+1)).1 _ _ G
    simp only at Wv
    rw[G] at g K
    have WL:Hid (L=(dU (d+1) z).map λj=>((e++[f])++j.1,j.2)):=by
     show _=_
     rw[g]
     simp only[sm,d8,List.singleton_append]
    have WD:Hid (2*z.length+2<=d+1):=by show _<=_;omega
    have WN:Hid (d<=n):=by have:=U Wd;show _<=_;omega
    have WA:Hid ((e++[f]).length+z.length<=c.length):=by have:=U V7;show _<=_;rw[bj,List.length_singleton];omega
    have WI:Hid (z.length<=c.length):=by have:=U Wb;show _<=_;omega
    have WH:Hid (e.length+1<=1099511627776):=by have:=U V7;have:=U Wc;show _<=_;omega
    have WO:Hid (z.length<sf wr a):=by show _<_;rw[U WM];omega
    clear g l F N G Wr Wv
    go_wp2_with (first
     | (go_at_call 48;refine(U T).mono ?_;rintro Wx I ⟨rfl,q,s⟩;have p:=VV (dJ a 41 o false x I q);have B:=VV s;clear q s)
     | (go_at_call 87;refine(U p).mono ?_;rintro Wy A ⟨rfl,i,t⟩;clear p;rw[U V9] at i;have C:=VV i;have k:=VV ((U B).trans t);clear i t)
     | (go_at_call 47;refine(U K A (U C)).mono ?_;rintro W6 O ⟨M,Z,VW,rfl,y,Wo⟩;rw[Tt.ad];have r:=ae (ae (ar _ O) (.cells #[.int .i64 f.k,.string f.s,.slice Z f.l.length (f.l.length+VW)] 51)) (.cells #[.int .i64 f.k,.string f.s,.slice Z f.l.length (f.l.length+VW)] 51);have v:=VV (((U k).trans M).trans (Gr.of_below r a));have WX:=VV ((U X).gr (U v) (U Q));have W:=VV (y.aa r);have WS:=VV ((U V).gr (U v) (U P));have Wz:=VV ((U V).fresh (U Wh) Wo (U k).size r);have Wi:=VV (aQ (U Wh) (U v).size);clear r M y Wo)
     | (refine jH _ rfl (.tmp 21) (.tmp 23) rfl base u4 e (f,Z,VW) (O.heap.size+1) rfl (U WS) (by simp[Act.eval,go_sem]) (U Wz) (mo (by simp[go_sem]) (by simp[go_sem]) (by simp[go_sem])) (U WH) (U Wi) ?_;intro Xb Xc Wt Wq;have WT:=VV Wt;have J:=VV Wq;clear Wt Wq))
    have Wf:=VV ((U W).step (U J) (U P))
    have WF:=VV (((U R).trans (U v)).step (U J) (Nat.le_of_lt (U D)))
    have WY:=VV ((U WX).step (U J) (U D))
    have WV:=VV (aQ (U Wi) (U J).size)
    go_roundw
    case rel=>exact⟨d,z,e++[f],WN,WT,Wf,WF,WY,WV,WI,WD,WA,WL⟩
    case measure=>rw[(U Wf).meas];exact U WO
theorem p6:∀d,(∀e,e<=d->∀a b c,Rd c b a->a.length<=1000000->2*a.length+1<=e->Calls prog 47 #[.pointer (some ⟨b,0,none⟩)] c (iK (dQ e a) b c))/\∀a b c,Rd c b a->a.length<=1000000->2*a.length+2<=d->Calls prog 88 #[.pointer (some ⟨b,0,none⟩)] c (iK (qy (dU d a)) b c):=by
 intro d;induction d with
 | zero=>exact⟨λe g a b c _ _ h=>absurd h (by omega),λa b c _ _ h=>absurd h (by omega)⟩
 | succ d j=>refine⟨λe g=>?_,λa b c h f i=>VD d j.1 a b c h f i⟩;rcases Nat.lt_or_eq_of_le g with g|rfl;(.exact j.1 e (by omega));.exact λa b c h f i=>oC d j.2 a b c h f i
theorem rp(a:List UInt8)(b:Nat)(c:World)(h:Rd c b a)(d:a.length<=1000000):Calls prog 47 #[.pointer (some ⟨b,0,none⟩)] c (iK (dQ (2*a.length+1) a) b c):=(p6 _).1 _ aV a b c h d aV
def fv(a:List UInt8):Option Tt:=match dQ (2*a.length+1) a with
 | none=>none
 | some b=>if bD b.2=[] then some b.1 else none
theorem Gr.below(h:Gr w W n)(e:m<=n)(c:m<=w.heap.size):Below m w W:=
 ⟨h.os,h.tape,h.output,h.size,λd b=>h.block d (be b c) (λa=>by injection a with a;omega)⟩
theorem Rd.made(b:World)(a:List UInt8):Rd (b.alloc (.cells #[.string (bs a)] 94)) b.heap.size a:=by
 refine⟨#[.string (bs a)],heap_alloc_new b _,rfl,λc d=>?_⟩;have:c=0:=by omega
 subst this;rfl
def tm(i:Option Tt)(a:World)(d:Ending)(b:World):Prop:=Bw a b/\match i with
 | some f=>∃c g,d=.returned (.tuple #[f.val c g,.bool true])/\Tt.aj (λe=>a.heap.size<=e/\e<b.heap.size) b c f.l
 | none=>d=.returned (.tuple #[fs,.bool false])
theorem qh(f:List UInt8)(b:World)(V8:f.length<=1000000):Calls prog 15 #[.string (bs f)] b (tm (fv f) b):=by
 obtain⟨Wd,Q⟩:=al (tm (fv f) b);rw[<-Q];have i:=VV Q;obtain⟨o,D⟩:=bq (b.alloc (.cells #[.int .i64 0,.string ⟨#[]⟩,.slice none 0 0] 51));have VX:Bw b o:=by rw[<-D];exact ae aN _
 have W:=VV (show RT o b.heap.size by rw[<-D];exact RT.new b);have t:o.heap.size=b.heap.size+1:=by rw[<-D];simp
 obtain⟨A,E⟩:=bq (o.alloc (.cells #[.string (bs f)] 94));have R:Bw o A:=by rw[<-E];exact ae aN _
 have VY:Rd A (b.heap.size+1) f:=by rw[<-E,<-t];exact Rd.made o f
 have P:=VV ((U W).aa R);have M:=VV (ac VX R);have K:Hid (b.heap.size+1<A.heap.size):=by show _<_;rw[<-E];simp[t]
 have x:=VV (rp f (b.heap.size+1) A VY V8);have q:=VV D;have r:=VV E;have Wc:=VV t;have N:Hid (b.heap.size≠b.heap.size+1):=by show _≠_;omega
 unfold fv at i;clear Q VX D E R VY W;cases F:dQ (2*f.length+1) f with
 | none=>
  rw[F] at i x;clear F;go_enter func15,ntmps15;go_upto_region 1 with fail;rw[U q];go_upto_region 2 with fail;rw[U r];clear q r t
  go_wp2_with (first
   | (go_at_call 47;refine(U x).mono ?_;rintro VZ c ⟨g,rfl,V9,m⟩;have d:=ae (ar _ c) (.cells #[.int .i64 0,.string ⟨#[]⟩,.slice none 0 0] 51);have z:=VV (gw (b.heap.size+1) V9 _ (m.aa d));have y:=VV (g.trans (Gr.of_below d _));clear m g d)
   | (go_at_call 48;refine(U z).mono ?_;rintro V0 p ⟨rfl,B,e⟩;have j:=VV ((U y).trans e);obtain⟨G,I,J,Y,Z,VW⟩:=(U P).gr (U j) (U N);clear e))
  refine aM (v:=.tuple #[fs,.bool false]) (by simp[results,results15,go_sem,G,I,J]) rfl ?_;rw[U i];exact⟨bT ((U M).trans ((U j).below (Nat.le_succ _) (by have:=U K;omega))) aV _ _ _,rfl⟩
 | some Wa=>
  obtain⟨a,w⟩:=Wa;rw[F] at i x;simp only at i;by_cases s:bD w=[]
  .rw[aR s] at i;have O:=VV s;clear F s;go_enter func15,ntmps15;go_upto_region 1 with fail;rw[U q];go_upto_region 2 with fail;rw[U r];clear q r t
   go_wp2_with (first
    | (go_at_call 47;refine(U x).mono ?_;rintro VZ c ⟨g,k,l,rfl,m,L⟩;rw[Tt.ad];have d:=ae (ar _ c) (.cells #[.int .i64 a.k,.string a.s,.slice k a.l.length (a.l.length+l)] 51);have V4:Hid (CA (c.alloc (.cells #[.int .i64 a.k,.string a.s,.slice k a.l.length (a.l.length+l)] 51)) [((c.heap.size,0),.int .i64 a.k),((c.heap.size,1),.string a.s),((c.heap.size,2),.slice k a.l.length (a.l.length+l))]):=⟨by simp[go_sem],by simp[go_sem],by simp[go_sem],trivial⟩;have V3:Hid (b.heap.size+1<c.heap.size):=be (U K) g.size;have V1:=VV (Tt.au L d);have z:=VV (gw (b.heap.size+1) w _ (m.aa d));have y:=VV (g.trans (Gr.of_below d _));have Wb:=VV g.size;have V2:=VV d.size;clear m g d L)
    | (go_at_call 48;refine(U z).mono ?_;rintro V0 p ⟨rfl,B,e⟩;rw[U O] at B;have S:=B.cell;have u:=U V4;have Wf:=U V3;have Wj:p.cell? ⟨c.heap.size,0,none⟩=some (.int .i64 a.k):=e.cell (by omega) u.1;have Wk:p.cell? ⟨c.heap.size,1,none⟩=some (.string a.s):=e.cell (by omega) u.2.1;have Wl:p.cell? ⟨c.heap.size,2,none⟩=some (.slice k a.l.length (a.l.length+l)):=e.cell (by omega) u.2.2.1;have j:=VV ((U y).trans e);have V:=VV e;obtain⟨G,I,J,Y,Z,VW⟩:=(U P).gr (U j) (U N);clear e u;unfold bs at S))
   refine aM (v:=.tuple #[.agg #[.int .i64 a.k,.string a.s,.slice k a.l.length (a.l.length+l)],.bool true]) (by simp[results,results15,go_sem,G,I,J]) rfl ?_;rw[U i];have Wg:=U K;refine⟨bT ((U M).trans ((U j).below (Nat.le_succ _) (by omega))) aV _ _ _,k,l,rfl,?_⟩;have V5:=U V2;exact Tt.ak (S:=λn=>b.heap.size+1<=n/\n<p.heap.size) (d4 p b.heap.size _ _ _) (λn T=>⟨by omega,be T.2 (by simp)⟩) _ (Tt.ak (S:=λn=>A.heap.size<=n/\n<c.heap.size) (λn Wh Wi C V6=>(U V).cell (by have:=C.1;omega) V6) (λn T=>⟨by omega,be (be T.2 V5) (U V).size⟩) _ (U V1))
  .rw[aL s] at i
   have V7:(bs (bD w)).toList.isEmpty=false:=by
    cases u:bD w with
    | nil=>exact absurd u s
    | cons We f=>simp[bs]
   obtain⟨X,C⟩:=bq (bs (bD w));rw[C] at V7;have O:=VV C;clear F s C;go_enter func15,ntmps15;go_upto_region 1 with fail;rw[U q];go_upto_region 2 with fail;rw[U r];clear q r t
   go_upto_region 4 with (first
    | (go_at_call 47;refine(U x).mono ?_;rintro VZ c ⟨g,k,l,rfl,m,L⟩;rw[Tt.ad];have d:=ae (ar _ c) (.cells #[.int .i64 a.k,.string a.s,.slice k a.l.length (a.l.length+l)] 51);have z:=VV (gw (b.heap.size+1) w _ (m.aa d));have y:=VV (g.trans (Gr.of_below d _));clear m g d L)
    | (go_at_call 48;refine(U z).mono ?_;rintro V0 p ⟨rfl,B,e⟩;have S:=B.cell;rw[U O] at S;have j:=VV ((U y).trans e);obtain⟨G,I,J,Y,Z,VW⟩:=(U P).gr (U j) (U N);clear e))
   go_wp2;refine aM (v:=.tuple #[fs,.bool false]) (by simp[results,results15,go_sem,G,I,J]) rfl ?_;rw[U i];exact⟨bT ((U M).trans ((U j).below (Nat.le_succ _) (by have:=U K;omega))) aV _ _ _,rfl⟩
def SK(c:Nat->Prop)(d:World)(b:World->Prop):Prop:=∀a,fm c d a->b a
theorem SK.now{a:World->Prop}(h:SK P w a):a w:=h w λ_ _ _ _ h=>h
theorem SK.kept{T:Nat->Prop}{b:World->Prop}(h:SK P w b)(k:fm P w W)(l:∀d,P d->T d):SK T W b:=λg i=>h g λa e f c j=>i a e f (l a c) (k a e f c j)
theorem SK.mono{T:Nat->Prop}{a:World->Prop}(h:SK P w a)(c:∀b,P b->T b):SK T w a:=h.kept (λ_ _ _ _ h=>h) c
theorem SK.aa{a:World->Prop}(h:SK P w a)(b:Bw w W):SK P W a:=h.kept (λ_ _ _ _ h=>aG h b) λ_ h=>h
abbrev SN (b:Nat) (c:World) (a:Nat):Prop:=b<=a/\a<c.heap.size
theorem SK.up{a:World->Prop}(h:SK (SN n w) w a)(b:Bw w W):SK (SN n W) W a:=(h.aa b).mono λd c=>⟨c.1,be c.2 b.size⟩
theorem SK.low{m:Nat}{a:World->Prop}(h:SK (SN n w) w a)(c:m<=n):SK (SN m w) w a:=h.mono λd b=>⟨aQ c b.1,b.2⟩
structure Lk(α:Type) where
 t:TypeId
 e:TypeId
 z:Value
 sz:Nat
 bt:Nat
 cells:α->List Value
 P:World->α->Prop
structure Lk.Ok{α:Type}(L:Lk α):Prop where
 hu:Tryz.prog.underlying L.t=some (.slice L.e)
 hi:(Tryz.prog.info? L.e).map (λi=>(i.zero,i.size,i.bytes))=some (some L.z,L.sz,L.bt)
 hz:L.z.cells.size=L.sz
 pos:0<L.sz
 bb:L.bt<=256
 len:∀y,(L.cells y).length=L.sz
 one:∀y u,u∈L.cells y->u.oneCell'=true
def GL{α:Type}(a:Lk α)(c:World)(base:Nat)(d:Value)(b:List α):Prop:=c.ownsRow base a.e a.sz d b.length (b.flatMap a.cells)/\∀f∈b,SK (NS c base d) c λe=>a.P e f
theorem GL.aa{α:Type}{c:Lk α}{base:Nat}{d:List α}(h:GL c w base v d)(a:Bw w W):GL c W base v d:=
 ⟨gR h.1 a,λf e=>((h.2 f e).aa a).mono λg b=>⟨b.1,be b.2.1 a.size,b.2.2⟩⟩
theorem GL.nil{α:Type}(a:Lk α)(c:World)(base:Nat):GL a c base (.slice none 0 0) []:=⟨⟨by simp,.inl ⟨rfl,rfl⟩⟩,λd b=>by cases b⟩
theorem GL.lt{α:Type}{b:Lk α}{base:Nat}{d:List α}(h:GL b w base v d):∀a,v.ownBlock=some a->a<w.heap.size:=λa c=>(World.ownsRow.lt h.1 a c).2
theorem kz{α:Type}{a:Lk α}(f:a.Ok):∀(e:List α) (c:Nat) (d:α) (b:Nat),e[c]?=some d->b<a.sz->(e.flatMap a.cells)[c*a.sz+b]?=(a.cells d)[b]?
 | [],c,d,b,h,_=>by simp at h
 | j::e,0,d,b,h,g=>by simp at h;subst h;rw[fl,Nat.zero_mul,aT,mt (by rw[f.len];exact g)]
 | j::e,c+1,d,b,h,g=>by rw[fl,Nat.succ_mul,gn (by rw[f.len];omega),f.len];(have i:c*a.sz+a.sz+b-a.sz=c*a.sz+b:=by omega);rw[i];exact kz f e c d b (by simpa using h) g
theorem GL.push{α:Type}{b:Lk α}(e:b.Ok)(c:World)(w:TypeId)(base:Nat)(l:Value)(j:List α)(F:GL b c base l j)(m:α)(I:SK (NS c base l) c λx=>b.P x m)(d:Nat)(A:∀f k,(b.cells m)[f]?=some k->c.cell? ⟨d,f,none⟩=some k)(E:j.length+1<=1048577)(t:base<=c.heap.size):∃n i,(Builtin.append_ #[b.t,b.t] w #[l,.slice (some ⟨d,0,none⟩) 1 1]).run prog c=.ok n i/\GL b i base n (j++[m])/\Below base c i:=by
 obtain⟨J,C,O,Q,R⟩:=info_parts e.hi;obtain⟨r,z⟩:=F;obtain⟨n,i,G,K,p,_,L⟩:=run_append_own_at (P:=prog) c base b.t w b.e J b.z b.sz b.bt e.hu C O Q R e.hz e.pos l j.length (j.flatMap b.cells) r ⟨d,0,none⟩ 1 1 (b.cells m) (by rw[e.len,Nat.one_mul]) (λf k D=>by(have y:(⟨d,0,none⟩:Addr).add f=⟨d,f,none⟩:=by by_cases h:f=0<;>simp[Addr.add,h]);rw[y];exact A f k D) (e.one m) (by unfold maxLen;omega) (aQ (Nat.mul_le_mul E e.bb) (by decide)) t;have u:fm (NS c base l) c i:=λq M k s B=>by rw[World.cell?_of_block (w:=c) (a:=⟨q,M,none⟩) (p.block q s.2.1 λo=>s.2.2 o.symm)];exact B
 have v:=NS.push (base:=base) p.size L;refine⟨n,i,G,⟨?_,λN g=>?_⟩,bP p t λd o=>(World.ownsRow.lt r d o).1⟩;.rw[List.flatMap_append,bj];simpa using K
 .rcases jD g with g|g;(.exact(z N g).kept u v);.rw[List.mem_singleton] at g;subst g;exact I.kept u v
theorem bK{α:Type}{b:Lk α}(v:b.Ok){q:Array Oper}{rest:List Oper}{c:Oper}{f:Act}{o:Exit->Act->World->Prop}(a:World)(y:c.guard=none)(l n:Operand)(m:TypeId)(A:c.op=.call { callee:=.builtin .append,args:=#[l,n],argTypes:=#[m,m] })(E:m=b.t) (base:Nat) (d:Value) (g:List α) (j:α) (k:Nat) (D:f.eval l=d) (B:GL b a base d g) (F:f.eval n=.slice (some ⟨k,0,none⟩) 1 1) (G:SK (NS a base d) a λs=>b.P s j) (x:∀p r,(b.cells j)[p]?=some r->a.cell? ⟨k,p,none⟩=some r) (z:g.length+1<=1048577) (w:base<=a.heap.size) (h:∀i e,GL b e base i (g++[j])->Below base a e->wpList prog q o rest (f.put c.dst i) e):wpList prog q o (c::rest) f a:=by subst E;obtain⟨i,e,C,t,u⟩:=GL.push v a c.type base d g B j G k x z w;exact di y l n b.t A d _ D F C (h i e t u)
theorem GL.node{α:Type}{a:Lk α}(n:a.Ok){base:Nat}{b:List α}(h:GL a w base v b):∃k l,v=.slice k b.length l/\b.length<=l/\(b=[]∨∃f,k=some ⟨f,0,none⟩/\SK (SN base w) w λg=>∀c e,b[c]?=some e->(∀d i,(a.cells e)[d]?=some i->g.cell? ⟨f,c*a.sz+d,none⟩=some i)/\a.P g e):=by
 obtain⟨m,u⟩:=h;have t:=m;rcases m.2 with ⟨rfl,s⟩|⟨f,r,E,rfl,x,A,z,_⟩
 .have:b=[]:=eV s;subst this;exact⟨none,0,rfl,aV,.inl rfl⟩
 .have D:=(Array.getElem?_eq_some_iff.1 A).1;refine⟨_,r,rfl,z,.inr ⟨f,rfl,λg o c e j=>⟨λd i p=>?_,?_⟩⟩⟩;(·(have C:d<a.sz:=by have:=(b6 p).1;rw[n.len] at this;exact this);refine o f _ i ⟨x,D⟩ ?_;have B:=(b6 j).1;(have y:c*a.sz+d<b.length*a.sz:=by have:(c+1)*a.sz<=b.length*a.sz:=Nat.mul_le_mul_right _ B;rw[Nat.succ_mul] at this;omega);rw[World.ownsRow.cellAt t (c*a.sz+d) y,kz n b c e d j C,p]);.exact((u e (a8 j)).mono (T:=SN base w) λF q=>⟨q.1,q.2.1⟩) g o
theorem SK.fresh{wr:World}{base:Nat}{a:World->Prop}(e:∀b,v.ownBlock=some b->b<wr.heap.size)(j:base<=wr.heap.size)(h:SK (SN n w) w a)(g:wr.heap.size<=n)(c:Bw w W):SK (NS W base v) W a:=
 (h.aa c).mono λf i=>⟨by omega,by have:=c.size;omega,λd=>by have:=e f d;omega⟩
abbrev Xm:=Ex×Option Addr×Nat
abbrev Pw:=Pl×Pm
def cF:Lk Int:=⟨23,3,.int .i64 0,1,8,λa=>[.int .i64 a],λ_ _=>True⟩
def dw:Lk (Int×Bool):=⟨24,82,.agg #[.int .i64 0,.bool false],2,16,λa=>[.int .i64 a.1,.bool a.2],λ_ _=>True⟩
def eu:Lk (Int×Int):=⟨25,78,.agg #[.int .i64 0,.int .i64 0],2,16,λa=>[.int .i64 a.1,.int .i64 a.2],λ_ _=>True⟩
def cI(a:Xm):List Value:=[.int .i64 a.1.op,.int .i64 a.1.n,.int .i64 a.1.v.k,.int .i64 a.1.v.n,.string a.1.v.s,.slice a.2.1 a.1.args.length a.2.2]
def ej:Lk Xm:=⟨22,72,.agg #[.int .i64 0,.int .i64 0,.int .i64 0,.int .i64 0,.string ⟨#[]⟩,.slice none 0 0],6,72,cI,λb a=>Ex.all b a.2.1 a.1.args⟩
def bQ(a:Pw):List Value:=[.int .i64 a.1.op,.string a.1.tab,.slice a.2.aE a.1.ex.length a.2.cE,.slice a.2.aC a.1.cols.length a.2.cC,.slice a.2.aK a.1.keys.length a.2.cK,.slice a.2.aA a.1.aggs.length a.2.cA,.int .i64 a.1.fn,.int .i64 a.1.col,.int .i64 a.1.n,.int .i64 a.1.off,.slice a.2.aP a.1.args.length a.2.cP]
def eS:Lk Pw:=⟨26,28,.agg #[.int .i64 0,.string ⟨#[]⟩,.slice none 0 0,.slice none 0 0,.slice none 0 0,.slice none 0 0,.int .i64 0,.int .i64 0,.int .i64 0,.int .i64 0,.slice none 0 0],11,176,bQ,λb a=>dN b a.1 a.2⟩
theorem cF.ok:cF.Ok:=⟨underlying23,by kernel_rfl,rfl,by decide,by decide,λ_=>rfl,λc b a=>by simp[cF] at a;subst a;rfl⟩
theorem dw.ok:dw.Ok:=⟨underlying24,by kernel_rfl,rfl,by decide,by decide,λ_=>rfl,λc b a=>by simp[dw] at a;rcases a with rfl|rfl<;>rfl⟩
theorem eu.ok:eu.Ok:=⟨underlying25,by kernel_rfl,rfl,by decide,by decide,λ_=>rfl,λc b a=>by simp[eu] at a;rcases a with rfl|rfl<;>rfl⟩
theorem ej.ok:ej.Ok:=⟨underlying22,by kernel_rfl,rfl,by decide,by decide,λ_=>rfl,λc b a=>by simp[ej,cI] at a;rcases a with rfl|rfl|rfl|rfl|rfl|rfl<;>rfl⟩
theorem eS.ok:eS.Ok:=⟨underlying26,by kernel_rfl,rfl,by decide,by decide,λ_=>rfl,λc b a=>by simp[eS,bQ] at a;rcases a with rfl|rfl|rfl|rfl|rfl|rfl|rfl|rfl|rfl|rfl|rfl<;>rfl⟩
theorem mg{f:World}{g:Nat}:∀(e:List Xm) (b:Nat),(∀c d,e[c]?=some d->(∀i j,(cI d)[i]?=some j->f.cell? ⟨g,b+c*6+i,none⟩=some j)/\Ex.all f d.2.1 d.1.args)->Ex.all f (some ⟨g,b,none⟩) (e.map Prod.fst)
 | [],b,_=>by rw[List.map_nil,Ex.all];trivial
 | ⟨⟨p,o,q,n⟩,k,l⟩ :: e,b,h=>by rw[bi,Ex.all];refine⟨g,b,rfl,?_,?_⟩;(.rw[Ex.at];have a:=h 0 _ rfl;simp only[Nat.zero_mul,Nat.add_zero] at a;exact⟨k,l,⟨a.1 0 _ rfl,a.1 1 _ rfl,a.1 2 _ rfl,a.1 3 _ rfl,a.1 4 _ rfl,a.1 5 _ rfl⟩,a.2⟩);.refine mg e (b+6) λc d m=>?_;have:=h (c+1) d (by simpa using m);rw[show b+(c+1)*6=b+6+c*6 by omega] at this;exact this
theorem lQ{f:World}{g:Nat}:∀(e:List Pw) (b:Nat),(∀c d,e[c]?=some d->(∀i j,(bQ d)[i]?=some j->f.cell? ⟨g,b+c*11+i,none⟩=some j)/\dN f d.1 d.2)->Pl.all f (some ⟨g,b,none⟩) (e.map Prod.fst)
 | [],b,_=>by rw[List.map_nil,Pl.all];trivial
 | ⟨⟨v,w,p,o,r,m,q,n,t,u,s⟩,l⟩ :: e,b,h=>by rw[bi,Pl.all];refine⟨g,b,rfl,?_,?_⟩;(.rw[Pl.at];have a:=h 0 _ rfl;simp only[Nat.zero_mul,Nat.add_zero] at a;exact⟨l,⟨a.1 0 _ rfl,a.1 1 _ rfl,a.1 2 _ rfl,a.1 3 _ rfl,a.1 4 _ rfl,a.1 5 _ rfl,a.1 6 _ rfl,a.1 7 _ rfl,a.1 8 _ rfl,a.1 9 _ rfl,a.1 10 _ rfl⟩,a.2.o,a.2.p⟩);.refine lQ e (b+11) λc d k=>?_;have:=h (c+1) d (by simpa using k);rw[show b+(c+1)*11=b+11+c*11 by omega] at this;exact this
theorem GL.ints{base:Nat}(h:GL cF w base v C):∃c d,v=.slice c C.length d/\C.length<=d/\SK (SN base w) w λb=>bC b c C:=by
 obtain⟨c,d,rfl,g,a⟩:=h.node cF.ok;refine⟨c,d,rfl,g,?_⟩;rcases a with a|⟨e,rfl,a⟩;.exact λb _=>.inl a
 .exact λb f=>.inr ⟨e,0,rfl,λj k i=>by have:=(a b f j k i).1 0 _ rfl;simpa [cF] using this⟩
theorem GL.keys{base:Nat}{e:List (Int×Bool)}(h:GL dw w base v e):∃c d,v=.slice c e.length d/\SK (SN base w) w λb=>cL b c e:=by
 obtain⟨c,d,rfl,n,a⟩:=h.node dw.ok;refine⟨c,d,rfl,?_⟩;rcases a with a|⟨k,rfl,a⟩;.exact λb _=>.inl a
 .exact λb f=>.inr ⟨k,0,rfl,λi j g=>by have l:=(a b f i j g).1 0 _ rfl;have m:=(a b f i j g).1 1 _ rfl;rw[aT];exact⟨l,m⟩⟩
theorem GL.aggs{base:Nat}{e:List (Int×Int)}(h:GL eu w base v e):∃c d,v=.slice c e.length d/\SK (SN base w) w λb=>dI b c e:=by
 obtain⟨c,d,rfl,n,a⟩:=h.node eu.ok;refine⟨c,d,rfl,?_⟩;rcases a with a|⟨k,rfl,a⟩;.exact λb _=>.inl a
 .exact λb f=>.inr ⟨k,0,rfl,λi j g=>by have l:=(a b f i j g).1 0 _ rfl;have m:=(a b f i j g).1 1 _ rfl;rw[aT];exact⟨l,m⟩⟩
theorem GL.exs{base:Nat}{d:List Xm}(h:GL ej w base v d):∃b e,v=.slice b (d.map Prod.fst).length e/\SK (SN base w) w λa=>Ex.all a b (d.map Prod.fst):=by
 obtain⟨b,e,rfl,o,c⟩:=h.node ej.ok;refine⟨b,e,by rw[VP],?_⟩;rcases c with rfl|⟨n,rfl,c⟩;.exact λa _=>by show Ex.all a _ [];rw[Ex.all];trivial
 .exact λa f=>mg d 0 λi j g=>⟨λl m k=>by rw[aT];exact(c a f i j g).1 l m k,(c a f i j g).2⟩
theorem GL.pls{base:Nat}{d:List Pw}(h:GL eS w base v d):∃b e,v=.slice b (d.map Prod.fst).length e/\SK (SN base w) w λa=>Pl.all a b (d.map Prod.fst):=by
 obtain⟨b,e,rfl,o,c⟩:=h.node eS.ok;refine⟨b,e,by rw[VP],?_⟩;rcases c with rfl|⟨n,rfl,c⟩;.exact λa _=>by show Pl.all a _ [];rw[Pl.all];trivial
 .exact λa f=>lQ d 0 λi j g=>⟨λl m k=>by rw[aT];exact(c a f i j g).1 l m k,(c a f i j g).2⟩
end Go.Proofs.YtabmgpillccfaaaGreatDoor

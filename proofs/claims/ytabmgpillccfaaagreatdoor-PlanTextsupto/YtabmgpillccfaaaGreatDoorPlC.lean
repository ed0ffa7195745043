import Derived.Test.YtabmgpillccfaaaGreatDoorPcS
set_option linter.all false
set_option maxHeartbeats 4000000
set_option maxRecDepth 100000
namespace Go.Proofs.YtabmgpillccfaaaGreatDoor
open Go.RowKit Go.Sort Go.Proofs.Tryz
def eN(a:Ex):Int:=if b0 a then (a.size:Int) else 1
theorem gT(a:Ex):1<=eN a/\eN a<=400:=by
 unfold eN;split;.rename_i h;obtain⟨b,c,_,_⟩:=gU bd a 400 40 (hn h);omega
 .omega
def fh:List Ex->Int->Int->Option Int
 | [],_,a=>some a
 | c::d,b,a=>if b<a+eN c then none else fh d b (a+eN c)
mutual
def e3:Pl->Int->Int->Option Int
 | .mk _ _ d _ _ _ _ _ _ _ e,a,b=>if decide (a<1) || decide (b<1) then none else match fh d a 1 with
  | none=>none
  | some c=>fi e a b c
def fi:List Pl->Int->Int->Int->Option Int
 | [],_,_,a=>some a
 | f::e,c,b,a=>match e3 f (c-a) (b-1) with
  | none=>none
  | some d=>fi e c b (a+d)
end
theorem le(p:Pl)(a b:Int):e3 p a b=if decide (a<1) || decide (b<1) then none else match fh p.ex a 1 with
  | none=>none
  | some c=>fi p.args a b c:=by cases p;rw[e3];rfl
theorem ld:∀(d:List Ex) (a b:Int) {c:Int},b<=a->fh d a b=some c->b<=c/\c<=a
 | [],a,b,c,f,h=>by rw[fh] at h;injection h with h;omega
 | e::d,a,b,c,f,h=>by rw[fh] at h;split at h;(.cases h);.have:=gT e;have:=ld d a (b+eN e) (by omega) h;omega
mutual
theorem hY:∀(j:Pl) (a c:Int) {b:Int},e3 j a c=some b->1<=b/\b<=a
 | .mk s t e m p k n l q r i,a,c,b,h=>by
  rw[e3] at h;split at h;.cases h
  .rename_i g
   simp only[Bool.or_eq_true,eK,not_or] at g
   cases d:fh e a 1 with
   | none=>rw[d] at h;cases h
   | some f=>
    rw[d] at h
    simp only at h
    have o:=ld e a 1 (by omega) d
    have:=ou i a c f (by omega) h
    omega
theorem ou:∀(f:List Pl) (a c b:Int) {d:Int},b<=a->fi f a c b=some d->b<=d/\d<=a
 | [],a,c,b,d,i,h=>by rw[fi] at h;injection h with h;omega
 | g::f,a,c,b,d,i,h=>by
  rw[fi] at h
  cases e:e3 g (a-b) (c-1) with
  | none=>rw[e] at h;cases h
  | some j=>
   rw[e] at h
   simp only at h
   have:=hY g (a-b) (c-1) e
   have:=ou f a c (b+j) (by omega) h
   omega
end
theorem ph(a:Ex)(o:a.fin)(g:Option Addr)(l:Nat)(f:World)(m:Ex.all f g a.args):Calls prog 62 #[a.val g l] f λk p=>k=.returned (.int .i64 (eN a))/\Bw f p:=by
 have c:=VV (λn=>lx a o g l (f.alloc n) (Ex.ab _ m (ae aN n)));have j:=gT a;rw[Ex.ad] at c ⊢;clear m;cases b:b0 a with
 | true=>(have e:cq a=((a.size:Int),(a.high:Int)):=by unfold cq;rw[aR b]);(have d:eN a=(a.size:Int):=by unfold eN;rw[aR b]);rw[e] at c;rw[d] at j ⊢;(have r:¬(400:Int)<(a.size:Int):=by omega);clear b e d j;go_enter func62,ntmps62;go_wp2_with (go_at_call 111;refine(U c _).mono ?_;rintro k q ⟨rfl,i⟩);go_ret;exact⟨rfl,dy i⟩
 | false=>(have e:cq a=(401,41):=by unfold cq;rw[aL (by rw[b];decide)]);(have d:eN a=1:=by unfold eN;rw[aL (by rw[b];decide)]);rw[e] at c;rw[d];clear b e d j;go_enter func62,ntmps62;go_wp2_with (go_at_call 111;refine(U c _).mono ?_;rintro k q ⟨rfl,i⟩);go_ret;exact⟨rfl,dy i⟩
abbrev C2 (a:Option Int):Ending:=.returned (.tuple #[.int .i64 (a.getD 0),.bool a.isSome])
theorem la(p:Pl)(V8:p.fin)(c e:Int)(g:Pm)(n:World)(WH:-1000<=c)(WG:c<=400)(WF:0<=e)(WE:e<=40)(V6:dN n p g) (V2:∀(m:Nat) (a:Pl),p.args[m]?=some a->∀(I D:Int) (t:Pm) (J:World),-1000<=I->I<=400->0<=D->D<=40->dN J a t->Calls prog 23 #[a.val t,.int .i64 I,.int .i64 D] J λu VX=>u=C2 (e3 a I D)/\Bw J VX):Calls prog 23 #[p.val g,.int .i64 c,.int .i64 e] n λu VX=>u=C2 (e3 p c e)/\Bw n VX:=by
 obtain⟨⟨Wx,Wy,Wz,WA,WB,WC,WD,_⟩,V9,_⟩:=Pl.af V8;have V0:=VV V9;obtain⟨o,T⟩:=al (e3 p c e)
 have F:Hid (o=if decide (c<1) || decide (e<1) then none else match fh p.ex c 1 with
  | none=>none
  | some P=>fi p.args c e P):=by rw[T];exact le p c e
 rw[<-T];have V:=ae (ar _ n) (p.box g);have y:Hid (dL (n.alloc (p.box g)) n.heap.size 0 p g):=dL.new n p g;have x:=VV (V6.aa V);have q:=VV V;have Wk:=VV V2;rw[Pl.ad];unfold Pl.box at y q x;clear T V6 V2 V V8 V9;by_cases j:c<1;.go_enter func23,ntmps23;go_wp2;exact aM (v:=.tuple #[.int .i64 0,.bool false]) (by simp[results,results23,go_sem]) rfl ⟨by rw[U F];simp[j],U q⟩
 by_cases r:e<1;.go_enter func23,ntmps23;go_wp2;exact aM (v:=.tuple #[.int .i64 0,.bool false]) (by simp[results,results23,go_sem]) rfl ⟨by rw[U F];simp[r],U q⟩
 have G:Hid (o=match fh p.ex c 1 with
  | none=>none
  | some P=>fi p.args c e P):=by have:=U F;show _=_;rw[aL (by simp;omega)] at this;exact this
 clear F;go_enter func23,ntmps23;go_upto_region 3 with fail;obtain⟨Wf,Wc⟩:=al (n.alloc (.cells #[.int .i64 p.op,.string p.tab,.slice g.aE p.ex.length g.cE,.slice g.aC p.cols.length g.cC,.slice g.aK p.keys.length g.cK,.slice g.aA p.aggs.length g.cA,.int .i64 p.fn,.int .i64 p.col,.int .i64 p.n,.int .i64 p.off,.slice g.aP p.args.length g.cP] 28));rw[<-Wc] at y q x ⊢;clear Wc;have V4:=(U y).c2;simp only[aT] at V4;go_wp2_with fail;go_loopw[8,24] (λVW m wr=>∃(b:Nat) (d:Int),b<=p.ex.length/\m=.int .i64 (b:Int)/\VW=.int .i64 d/\1<=d/\d<=c/\Hid (fh p.ex c 1=fh (p.ex.drop b) c d)/\Hid (Bw Wf wr)) (λ_ m _=>p.ex.length-(intOf m).toNat);case atStart=>exact⟨0,1,bf,rfl,rfl,by omega,by omega,rfl,aN⟩
 case round=>
  clear V4;obtain⟨b,d,Wa,rfl,rfl,Wm,Wn,f,i⟩:=hrel;by_cases K:b<p.ex.length
  ·(have S:(b:Int)<(p.ex.length:Int):=by omega);obtain⟨a,l⟩:∃a,p.ex[b]?=some a:=⟨_,ba K⟩;(have C:p.ex.drop b=a::p.ex.drop (b+1):=by obtain⟨Y,Z⟩:=b6 l;rw[hb Y,Z]);obtain⟨Wp,Wq,R,B⟩:=Ex.all_get (Ex.ab _ (U x).o.e (U i)) l;obtain⟨O,Q,⟨Wr,Ws,Wt,Wu,Wv,Ww⟩,A⟩:=Ex.ao B;have Wd:=Ex.ag (U V0) (a8 l);have k:=VV (ph a Wd O Q (wr.alloc (.cells #[.int .i64 a.op,.int .i64 a.n,.int .i64 a.v.k,.int .i64 a.v.n,.string a.v.s,.slice O a.args.length Q] 72)) (Ex.ab _ A (ae aN _)));have w:=VV (ae (U i) (.cells #[.int .i64 a.op,.int .i64 a.n,.int .i64 a.v.k,.int .i64 a.v.n,.string a.v.s,.slice O a.args.length Q] 72));rw[Ex.ad] at k;rw[C,fh] at f;have WI:=gT a;generalize eN a=We at *;rw[R];clear l C B A Wd i;by_cases Wb:c<d+We
   .have z:Hid (o=none):=by
     have j:=U f
     rw[aR Wb] at j
     have r:=U G
     rw[j] at r
     exact r
    clear f G
    go_wp2_with (go_at_call 62;refine(U k).mono ?_;rintro u VY ⟨rfl,s⟩)
    exact aM (v:=.tuple #[.int .i64 0,.bool false]) (by simp[results,results23,go_sem]) rfl ⟨by rw[U z];rfl,ac (U q) (ac (U w) s)⟩
   .rw[aL Wb] at f;go_wp2_with (go_at_call 62;refine(U k).mono ?_;rintro u VY ⟨rfl,s⟩);exact⟨⟨b+1,d+We,by omega,by go_num,rfl,by omega,by omega,U f,ac (U w) s⟩,by simp[intOf];omega⟩
  ·(have S:¬(b:Int)<(p.ex.length:Int):=by omega);(have V1:Hid (o=fi p.args c e d):=by have j:=U f;have r:=U G;rw[dG (by omega),fh] at j;rw[j] at r;exact r);have VZ:=VV (ac (U q) (U i));have Wj:=VV ((U y).aa (U i));have Wh:=VV ((U x).aa (U i));have V3:=(U Wj).c10;simp only[aT] at V3;clear f G i q y x V0 K Wa;obtain⟨Wg,Wo⟩:=al wr;subst Wo;go_wp2_with fail;go_loopw[8,39] (λVW m wr=>∃(b:Nat) (d:Int),b<=p.args.length/\m=.int .i64 (b:Int)/\VW=.int .i64 d/\1<=d/\d<=c/\Hid (o=fi (p.args.drop b) c e d)/\Hid (Bw Wg wr)) (λ_ m _=>p.args.length-(intOf m).toNat);case atStart=>exact⟨0,d,bf,rfl,rfl,by omega,by omega,U V1,aN⟩
   case round=>
    clear V3 V1;obtain⟨b,d,Wa,rfl,rfl,Wm,Wn,f,i⟩:=hrel;by_cases K:b<p.args.length
    .have S:(b:Int)<(p.args.length:Int):=by omega
     obtain⟨a,l⟩:∃a,p.args[b]?=some a:=⟨_,ba K⟩
     have C:p.args.drop b=a::p.args.drop (b+1):=by
      obtain⟨Y,Z⟩:=b6 l
      rw[hb Y,Z]
     obtain⟨Wp,Wq,R,B⟩:=Pl.all_get (Pl.ab _ (U Wh).p (U i)) l
     obtain⟨t,V7,V5,A⟩:=Pl.ao B
     have W:=ae (ar _ wr) (a.box t)
     have k:=VV (U Wk b a l (c-d) (e-1) t (wr.alloc (a.box t)) (by omega) (by omega) (by omega) (by omega) ((dN.mk V5 A).aa W))
     have w:=VV (ac (U i) W)
     have M:=VV V7.load
     have E:=VV (dL.new wr a t).load
     rw[Pl.ad] at k M E
     unfold Pl.box at k w E
     rw[C,fi] at f
     obtain⟨L,X⟩:=bq (e3 a (c-d) (e-1))
     rw[X] at k f
     have N:=VV X
     rw[R]
     clear l C B A X W V7 V5 i
     cases L with
     | none=>
      have z:Hid (o=none):=U f
      clear f N
      go_wp2_with (first
       | (refine aH ?_ 28 (.tmp 41) rfl _ (by simp[Act.eval]) _ (U M) ?_;. simp[Region.wanted,yielded])
       | (refine aH ?_ 28 (.tmp 12) rfl _ (by simp[Act.eval]) _ (U E) ?_;. simp[Region.wanted,yielded])
       | (go_at_call 23;refine(U k).mono ?_;rintro u VY ⟨rfl,s⟩))
      exact aM (v:=.tuple #[.int .i64 0,.bool false]) (by simp[results,results23,go_sem]) rfl ⟨by rw[U z];rfl,ac (U VZ) (ac (U w) s)⟩
     | some L=>
      obtain⟨WJ,WK⟩:=hY a (c-d) (e-1) (U N)
      have Wl:Hid (o=fi (p.args.drop (b+1)) c e (d+L)):=U f
      clear f N
      go_wp2_with (first
       | (refine aH ?_ 28 (.tmp 41) rfl _ (by simp[Act.eval]) _ (U M) ?_;. simp[Region.wanted,yielded])
       | (refine aH ?_ 28 (.tmp 12) rfl _ (by simp[Act.eval]) _ (U E) ?_;. simp[Region.wanted,yielded])
       | (go_at_call 23;refine(U k).mono ?_;rintro u VY ⟨rfl,s⟩))
      exact⟨⟨b+1,d+L,by omega,by go_num,rfl,by omega,by omega,U Wl,ac (U w) s⟩,by simp[intOf];omega⟩
    ·(have S:¬(b:Int)<(p.args.length:Int):=by omega);(have z:Hid (o=some d):=by have j:=U f;rw[dG (by omega),fi] at j;exact j);have Wi:=VV (ac (U VZ) (U i));clear f i;go_wp2;exact aM (v:=.tuple #[.int .i64 d,.bool true]) (by simp[results,results23,go_sem]) rfl ⟨by rw[U z];rfl,U Wi⟩
theorem iI:∀(f:Nat) (a:Pl),a.size<=f->a.fin->∀(c b:Int) (e:Pm) (d:World),-1000<=c->c<=400->0<=b->b<=40->dN d a e->Calls prog 23 #[a.val e,.int .i64 c,.int .i64 b] d λy z=>y=C2 (e3 a c b)/\Bw d z
 | 0,a,i,_,_,_,_,_,_,_,_,_,_=>by rw[Pl.am] at i;omega
 | f+1,a,i,g,c,b,e,d,r,s,t,u,w=>la a g c b e d r s t u w λB A j l k x m n o p q v=>
  iI f A (by have:=Pl.av j;omega) (Pl.ay g j) l k x m n o p q v
end Go.Proofs.YtabmgpillccfaaaGreatDoor

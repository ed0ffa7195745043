import Derived.Test.YtabmgpillccfaaaGreatDoorTxQ
import Derived.Test.YtabmgpillccfaaaGreatDoorPlO
set_option linter.all false
set_option maxHeartbeats 1000000
set_option maxRecDepth 100000
namespace Go.Proofs.YtabmgpillccfaaaGreatDoor
open Go.RowKit Go.Sort Go.Proofs.Tryz Go.ChangeShapes Go.WideShapes Go.ChangeAt Go.Joins Go.Deep
theorem kQ:∀(l:Nat) (a:Pl),a.size<=l->a.size<=400->pQ a->a.fin->∀(c:Pm) (b:World),dN b a c->GT b->Calls prog 11 #[a.val c] b λy z=>y=.returned (.string (bs (cX a)))/\Bw b z:=by
 intro l;induction l with
 | zero=>intro a h;exact absurd h (by rw[Pl.am];omega)
 | succ l o=>
 intro a E v u g c b f e;have d:=jj u;have hF:=Pl.af g;have t:=jb a.args d.2 hF.2.2;rw[ja] at t;have C:Pl.sizes a.args<400:=by rw[Pl.am] at v;omega
 have j:((a.args.map cX).map λw=>w.length+1).sum<=268435456*400:=by omega
 have i:∀k,Bw b k->Calls prog 36 #[.slice c.aP a.args.length c.cP,.func (.func 11) #[] #[]] k (e5 (a.args.map cX) k):=λk s=>
  mF 11 (λargs b=>by rfl) cX a.args (by have:=hF.1;omega) c.aP c.cP b k s f.p (λF A m x p r n=>by
   have D:=Pl.av m
   exact o A (by omega) (by omega) (ji d.2 (a8 m)) (Pl.ag hF.2.2 (a8 m)) x p (r.aa n) (e.aa n))
 have B:=d.1.op;have q:a.op=1∨a.op=2∨a.op=3∨a.op=4∨a.op=5∨a.op=6∨a.op=7∨a.op=8∨a.op=9∨a.op=10∨a.op=11∨a.op=12:=by omega
 rcases q with h|h|h|h|h|h|h|h|h|h|h|h;.exact lO a h d.1 g c b f e j i
 .exact lN a h d.1 g c b f e j i
 .exact lM a h d.1 g c b f e j i
 .exact lL a h d.1 g c b f e j i
 .exact lK a h d.1 g c b f e j i
 .exact lJ a h d.1 g c b f e j i
 .exact lI a h d.1 g c b f e j i
 .exact lH a h d.1 g c b f e j i
 .exact lG a h d.1 g c b f e j i
 .exact kP a h d.1 g c b f e j i
 .exact kO a h d.1 g c b f e j i
 .exact kN a h d.1 g c b f e j i
theorem oQ(p:Pl)(o:p.fin)(d:Pm)(a:World)(n:dN a p d)(s:GT a)(q:bS p=0->pQ p/\p.size<=400):Calls prog 4 #[p.val d] a λr x=>r=.returned (.tuple #[.string (if bS p=0 then bs (cX p) else bs []),.int .i64 (bS p)])/\Bw a x:=by
 have t:=ae (ar _ a) (p.box d);have l:=VV (dL.new a p d);have g:=VV (dL.new a p d).load;have e:=VV t;have f:=VV (λ(j:World) (m:Bw a j)=>jy p o d j (n.aa m));by_cases b:bS p=0
 .have u:=VV (λ(j:World) (m:Bw a j)=>kQ p.size p aV (q b).2 (q b).1 o d j (n.aa m) (s.aa m));rw[aR b,b];rw[b] at f;unfold Pl.box at l e g;rw[Pl.ad] at f u g ⊢;clear t n o s q;go_enter func4,ntmps4
  go_wp2_with (first
   | (refine aH ?_ 28 (.tmp 1) rfl _ (by simp[Act.eval]) _ (U i) ?_;. simp[Region.wanted,yielded])
   | (refine aH ?_ 28 (.tmp 1) rfl _ (by simp[Act.eval]) _ (U g) ?_;. simp[Region.wanted,yielded])
   | (go_at_call 10;refine(U f _ (U e)).mono ?_;rintro r y ⟨rfl,c⟩;have k:=VV (ac (U e) c);have i:=VV ((U l).aa c).load;rw[Pl.ad] at i;clear c)
   | (go_at_call 11;refine(U u _ (U k)).mono ?_;rintro r A ⟨rfl,w⟩))
  go_ret2;exact⟨rfl,ac (U k) w⟩
 .rw[aL b];unfold bs;unfold Pl.box at l e g;rw[Pl.ad] at f g ⊢;clear t n o s q;obtain⟨z,v⟩:=al (bS p);rw[<-v] at f b ⊢;clear v;go_enter func4,ntmps4
  go_wp2_with (first
   | (refine aH ?_ 28 (.tmp 1) rfl _ (by simp[Act.eval]) _ (U i) ?_;. simp[Region.wanted,yielded])
   | (refine aH ?_ 28 (.tmp 1) rfl _ (by simp[Act.eval]) _ (U g) ?_;. simp[Region.wanted,yielded])
   | (go_at_call 10;refine(U f _ (U e)).mono ?_;rintro r y ⟨rfl,c⟩;have k:=VV (ac (U e) c);have i:=VV ((U l).aa c).load;rw[Pl.ad] at i;clear c))
  go_ret2;exact⟨rfl,U k⟩
mutual
def Pl.finO:Pl->Prop
 | .mk k l f e i d g a j c b=>(b2 c/\b2 a)/\Pl.finOs b
def Pl.finOs:List Pl->Prop
 | []=>True
 | a::b=>a.finO/\Pl.finOs b
end
theorem Pl.finO_open{p:Pl}(h:p.finO):(b2 p.off/\b2 p.col)/\Pl.finOs p.args:=by
 cases p with
 | mk k l d c f a e b i j g=>rw[Pl.finO] at h;exact h
theorem oq:∀(b:List Ex) (d c:Int) {e:Int},fh b d c=some e->(∀a∈b,b0 a=true)->VN b/\(Ex.sizes b:Int)+c<=e
 | [],d,c,e,h,_=>by rw[fh] at h;injection h with h;rw[VN,Ex.sizes];exact⟨trivial,by omega⟩
 | a::b,d,c,e,h,f=>by rw[fh] at h;split at h;(.cases h);.have g:=f a (List.mem_cons_self ..);(have k:eN a=(a.size:Int):=by unfold eN;rw[aR g]);have:=oq b d (c+eN a) h (λj i=>f j (List.mem_cons_of_mem _ i));rw[VN,Ex.sizes];exact⟨⟨(q7 g).1,this.1⟩,by have:=this.2;omega⟩
theorem rr{p:Pl}(h:b7 p=true)(u:VN p.ex)(x:Ex.sizes p.ex<=400)(j:b2 p.off/\b2 p.col):mA p:=by
 unfold b7 at h;rw[dW,dW] at h;have a:=h.1.2;unfold bg at a;have w:1<=p.op/\p.op<=12:=by by_cases v:1<=p.op/\p.op<=12;(.exact v);.exfalso;(have b:(p.op == 1)=false:=by simp;omega);(have c:(p.op == 2)=false:=by simp;omega);(have e:(p.op == 3)=false:=by simp;omega);(have n:(p.op == 4)=false:=by simp;omega);(have o:(p.op == 5)=false:=by simp;omega);(have q:(p.op == 6)=false:=by simp;omega);(have r:(p.op == 7)=false:=by simp;omega);(have s:(p.op == 8)=false:=by simp;omega);(have t:(p.op == 9)=false:=by simp;omega);(have k:(p.op == 10)=false:=by simp;omega);(have l:(p.op == 11)=false:=by simp;omega);(have m:(p.op == 12)=false:=by simp;omega);simp[b,c,e,n,o,q,r,s,t,k,l,m] at a
 refine⟨w,u,x,?_,?_,?_,?_,j.1,j.2⟩;.rintro(d|d|d);(.rw[d] at a;intro f;rw[f] at a;simp at a);(.rw[d] at a;intro f;rw[f] at a;simp at a);.rw[d] at a;intro f;rw[f] at a;simp at a
 .intro d g i;rw[d] at a;(have b:(!p.aggs.any cT)=true:=by revert a;simp);(have c:cT g=false:=by(have e:p.aggs.any cT=false:=by simpa using b);rw[List.any_eq_false] at e;simpa using e g i);unfold cT at c;simp only[Bool.or_eq_false_iff,decide_eq_false_iff_not] at c;omega
 .intro d;rw[d] at a;(have b:gX p.fn p.col p.n=true:=by revert a;simp);unfold gX at b;split at b;(.rename_i c;simp at c;omega);.split at b;(.rename_i c;simp at c;omega);.split at b;(.rename_i c;simp at c;omega);.cases b
 .intro d g i;rw[d] at a;(have b:hl p.cols=true:=by revert a;simp);unfold hl at b;(have e:p.cols.any hg=false:=by rw[dW] at b;simpa using b.2);rw[List.any_eq_false] at e;have c:=e g i;unfold hg at c;simp at c;omega
mutual
theorem qZ:∀(e:Pl) (b g:Int) {m:Int},e3 e b g=some m->dO e=true->e.finO->b<=400->pQ e/\(e.size:Int)<=m
 | .mk E F c u B r v t C D n,b,g,m,h,d,A,w=>by
  have l:b7 (.mk E F c u B r v t C D n)=true/\c.any ca=false/\li n=false:=by rw[dO] at d;simp only[dW,Bool.not_eq_true'] at d;exact⟨d.1.1,d.1.2,d.2⟩
  rw[e3] at h;split at h;.cases h
  .rename_i y
   simp only[Bool.or_eq_true,eK,not_or] at y
   have x:∀i∈c,b0 i=true:=λi z=>by
    have p:=l.2.1
    rw[List.any_eq_false] at p
    have k:=p i z
    unfold ca at k
    simp at k
    exact k.1
   cases f:fh c b 1 with
   | none=>rw[f] at h;cases h
   | some s=>
    rw[f] at h
    simp only at h
    have j:=oq c b 1 f x
    have G:=ld c b 1 (by omega) f
    have q:=Pl.finO_open A
    have o:=ot n b g s h l.2.2 q.2 w (by omega)
    have a:=rr l.1 j.1 (by have:=j.2;show Ex.sizes c<=400;omega) q.1
    rw[pQ,Pl.size]
    exact⟨⟨⟨a.op,a.ex,a.sz,a.e1,a.ag,a.fn,a.kd,a.of,a.co⟩,o.1⟩,by have:=o.2;have:=j.2;omega⟩
theorem ot:∀(c:List Pl) (b d a:Int) {g:Int},fi c b d a=some g->li c=false->Pl.finOs c->b<=400->1<=a->jN c/\(Pl.sizes c:Int)+a<=g
 | [],b,d,a,g,h,_,_,_,_=>by rw[fi] at h;injection h with h;rw[jN,Pl.sizes];exact⟨trivial,by omega⟩
 | i::c,b,d,a,g,h,e,j,n,q=>by
  rw[li] at e
  rw[Pl.finOs] at j
  rw[fi] at h
  cases f:e3 i (b-a) (d-1) with
  | none=>rw[f] at h;cases h
  | some o=>
   rw[f] at h
   simp only at h
   have m:dO i=true/\li c=false:=by
    rw[Bool.or_eq_false_iff] at e
    exact⟨by simpa using e.1,e.2⟩
   have k:=qZ i (b-a) (d-1) f m.1 j.1 (by omega)
   have p:=hY i (b-a) (d-1) f
   have l:=ot c b d (a+o) h m.2 j.2 n (by omega)
   rw[jN,Pl.sizes]
   exact⟨⟨k.1,l.1⟩,by have:=k.2;have:=l.2;omega⟩
end
theorem ix{p:Pl}(d:p.finO)(h:bS p=0):pQ p/\p.size<=400:=by
 unfold bS at h;cases a:e3 p 400 40 with
 | none=>rw[a] at h;simp at h
 | some f=>
  rw[a] at h
  cases c:dO p with
  | false=>rw[c] at h;simp at h
  | true=>
   have b:=qZ p 400 40 a c d (by omega)
   have e:=hY p 400 40 a
   exact⟨b.1,by have:=b.2;omega⟩
theorem Pl.finOs_of:∀a:List Pl,(∀b∈a,b.finO)->Pl.finOs a
 | [],_=>by rw[Pl.finOs];trivial
 | d::a,h=>by rw[Pl.finOs];exact⟨h d (List.mem_cons_self ..),Pl.finOs_of a λb c=>h b (List.mem_cons_of_mem _ c)⟩
section
variable {H:Type}{enc:TypeId×Value->H}{w:World}{base:Nat}{spare:Nat->Bool}{held:Bool}
theorem lV:∀(D:Nat) (e:DataW H),SizeOf.sizeOf e<=D->Rows.uptoBulk e<=1048576->∀{v:Nat} {u:List Value} {ps:List MemPlace},DataW.trod enc prog w base spare held v 28 u=some (e,ps)->∃a:Pl×Pm,u=iS a/\dN w a.1 a.2/\a.1.fin/\a.1.finO
 | 0,e,V5,_,_,_,_,_=>by cases e<;>simp at V5
 | D+1,e,V5,WR,v,u,ps,h=>by
  obtain⟨o,d,g,i,j,k,p,q,r,s,f,WU,c,V1,T,V,X,Y,Z,VW,VX,VY,VZ,V0,W⟩:=jJ underlying28 h
  change e=_ at c
  subst c
  rw[ov] at V1
  match u,V1 with
  | [WB,WC,WE,WF,WG,WH,WI,WJ,WK,WL,WD],_=>
   simp only[iu,q4,ow,q2,q1,q3,q0,List.drop_zero,List.take_succ_cons,List.take_zero,List.drop_succ_cons] at T V X Y Z VW VX VY VZ V0 W
   obtain⟨I,N,WV,WW⟩:=DataW.trod_int underlying3 T
   obtain⟨t,O,Wp,WX⟩:=DataW.trod_string underlying9 V
   obtain⟨A,P,_,_⟩:=DataW.trod_int underlying3 VX
   obtain⟨y,Q,_,Ws⟩:=DataW.trod_int underlying3 VY
   obtain⟨F,R,_,Wt⟩:=DataW.trod_int underlying3 VZ
   obtain⟨G,S,_,Wu⟩:=DataW.trod_int underlying3 V0
   simp only[List.cons.injEq,and_true] at N O P Q R S
   subst N O P Q R S
   have Wv:=(e4 (show d.1∈[o.1,d.1,g.1,i.1,j.1,k.1,p.1,q.1,r.1,s.1,f.1] by simp)).1
   have Wx:=e4 (show g.1∈[o.1,d.1,g.1,i.1,j.1,k.1,p.1,q.1,r.1,s.1,f.1] by simp)
   have Wy:=(e4 (show i.1∈[o.1,d.1,g.1,i.1,j.1,k.1,p.1,q.1,r.1,s.1,f.1] by simp)).1
   have Wz:=(e4 (show j.1∈[o.1,d.1,g.1,i.1,j.1,k.1,p.1,q.1,r.1,s.1,f.1] by simp)).1
   have WA:=(e4 (show k.1∈[o.1,d.1,g.1,i.1,j.1,k.1,p.1,q.1,r.1,s.1,f.1] by simp)).1
   have Ww:=e4 (show f.1∈[o.1,d.1,g.1,i.1,j.1,k.1,p.1,q.1,r.1,s.1,f.1] by simp)
   have Wo:t.size<=1048576:=nN (H:=H) (by have We:d.1=.lit (.string t.data.toList):=(by rw[Wp]);rw[<-We];omega)
   have WS:Inhabited (Ex×Option Addr×Nat):=⟨(.mk 0 0 .null [],none,0)⟩
   have WT:Inhabited (Pl×Pm):=⟨(.mk 0 ⟨#[]⟩ [] [] [] [] 0 0 0 0 [],⟨none,0,none,0,none,0,none,0,none,0⟩)⟩
   obtain⟨J,L,m,rfl,_,Wh,V4,WO⟩:=e7 6 (by decide) iU (λa=>Ex.all w a.2.1 a.1.args/\a.1.fin) underlying22 lf (λa=>rfl) (λv Wd n B Wq Wr=>lW (SizeOf.sizeOf n.1) n.1 aV (by omega) (ps:=n.2) B) X
   obtain⟨V8,Wb,z,rfl,Wk,Wg,Wm,WN⟩:=nd Y
   obtain⟨V9,Wc,E,rfl,_,Wi,Wn,WP⟩:=nc Z
   obtain⟨V7,Wa,x,rfl,_,Wf,Wl,WM⟩:=nf VW
   obtain⟨K,M,l,rfl,_,Wj,C,WQ⟩:=e7 11 (by decide) iS (λa=>dN w a.1 a.2/\a.1.fin/\a.1.finO) underlying26 ov (λa=>rfl) (λv Wd n B Wq Wr=>lV D n.1 (by omega) (by omega) (ps:=n.2) B) W
   have V2:(m.map Prod.fst).length=m.length:=by simp
   have V3:(l.map Prod.fst).length=l.length:=by simp
   refine⟨(.mk I t (m.map Prod.fst) z E x A y F G (l.map Prod.fst),⟨J,L,V8,Wb,V9,Wc,V7,Wa,K,M⟩),?_,⟨⟨og Wh (λa b=>(V4 a b).1),Wg,Wi,Wf,Wk⟩,rz Wj (λa b=>(C a b).1)⟩,?_,?_⟩
   .show _=[_,_,Value.slice J (m.map Prod.fst).length L,_,_,_,_,_,_,_,Value.slice K (l.map Prod.fst).length M]
    rw[V2,V3];rfl
   .show Pl.fin (.mk I t (m.map Prod.fst) z E x A y F G (l.map Prod.fst))
    rw[Pl.fin]
    refine⟨⟨Wo,by rw[V2];omega,by omega,by omega,by omega,by rw[V3];omega,fz Wt,Wm,Wn,Wl⟩,Ex.aC _ λV6 c=>?_,Pl.aC _ λV6 c=>?_⟩
    .obtain⟨a,b,rfl⟩:=fB c
     exact(V4 a b).2
    .obtain⟨a,b,rfl⟩:=fB c
     exact(C a b).2.1
   .show Pl.finO (.mk I t (m.map Prod.fst) z E x A y F G (l.map Prod.fst))
    rw[Pl.finO]
    refine⟨⟨fz Wu,fz Ws⟩,Pl.finOs_of _ λV6 c=>?_⟩
    obtain⟨a,b,rfl⟩:=fB c
    exact(C a b).2.2
end
end Go.Proofs.YtabmgpillccfaaaGreatDoor

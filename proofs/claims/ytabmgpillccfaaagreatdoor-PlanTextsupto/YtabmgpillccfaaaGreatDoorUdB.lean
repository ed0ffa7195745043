import Derived.Test.YtabmgpillccfaaaGreatDoorUdD
import Derived.Test.YtabmgpillccfaaaGreatDoorUcD
import Derived.Test.YtabmgpillccfaaaGreatDoorUcG
import Derived.Test.YtabmgpillccfaaaGreatDoorUcJ
import Derived.Test.YtabmgpillccfaaaGreatDoorUcK
import Derived.Test.YtabmgpillccfaaaGreatDoorTyK
set_option linter.all false
set_option maxHeartbeats 4000000
set_option maxRecDepth 100000
namespace Go.Proofs.YtabmgpillccfaaaGreatDoor
open Go.RowKit Go.Sort Go.Proofs.Tryz
theorem lP(i:ByteArray)(h:Dt)(a:List Dt)(g:(Dt.mk true i (h::a)).fin)(t:Option Addr)(u:Nat)(s:World)(f:Dt.all s t (h::a))(v:GT s)(z:0<=gt (.mk true i (h::a)))(p:gt (.mk true i (h::a))=7∨(a.length:Int)=bN (gt (.mk true i (h::a))+1)) (e:∀k∈h::a,∀(l:Option Addr) (m:Nat) (j:World),Dt.all j l k.l->Bw s j->Calls prog 18 #[k.val l m] j (cS (bZ k) j)):Calls prog 18 #[(Dt.mk true i (h::a)).val t u] s (cS (bu (gt (.mk true i (h::a))+1) a (a.map bZ)) s):=by
 have x:=dC aX (headD (.mk true i (h::a)));rw[a7] at x;have x:gt (.mk true i (h::a))<12:=by have:gt (.mk true i (h::a))=ch aX (headD (.mk true i (h::a))):=rfl;omega
 have y:gt (.mk true i (h::a))=0∨gt (.mk true i (h::a))=1∨gt (.mk true i (h::a))=2∨gt (.mk true i (h::a))=3∨gt (.mk true i (h::a))=4∨gt (.mk true i (h::a))=5∨gt (.mk true i (h::a))=6∨gt (.mk true i (h::a))=7∨gt (.mk true i (h::a))=8∨gt (.mk true i (h::a))=9∨gt (.mk true i (h::a))=10∨gt (.mk true i (h::a))=11:=by omega
 rcases y with b|b|b|b|b|b|b|b|b|b|b|b
 .rw[b] at p ⊢
  have q:a.length=1:=by rcases p with c|c;exact absurd c (by decide);have c:(a.length:Int)=1:=c;omega
  match a,q,g,f,b,e with
  | [r],_,g,f,b,e=>exact o0 i h r g t u s f v b λw k d l m j n o=>e k (by first | (have:=a8 d;simp at this;done) | (first | (have:=a8 d;simp at this;done) | (have:=a8 d;simp at this;simp[this]))) l m j n o
 .rw[b] at p ⊢
  have q:a.length=2:=by rcases p with c|c;exact absurd c (by decide);have c:(a.length:Int)=2:=c;omega
  match a,q,g,f,b,e with
  | [r,p1],_,g,f,b,e=>exact oZ i h r p1 g t u s f v b λw k d l m j n o=>e k (by first | (have:=a8 d;simp at this;done) | (first | (have:=a8 d;simp at this;done) | (have:=a8 d;simp at this;simp[this]))) l m j n o
 .rw[b] at p ⊢
  have q:a.length=2:=by rcases p with c|c;exact absurd c (by decide);have c:(a.length:Int)=2:=c;omega
  match a,q,g,f,b,e with
  | [r,p1],_,g,f,b,e=>exact oY i h r p1 g t u s f v b λw k d l m j n o=>e k (by first | (have:=a8 d;simp at this;done) | (first | (have:=a8 d;simp at this;done) | (have:=a8 d;simp at this;simp[this]))) l m j n o
 .rw[b] at p ⊢
  have q:a.length=3:=by rcases p with c|c;exact absurd c (by decide);have c:(a.length:Int)=3:=c;omega
  match a,q,g,f,b,e with
  | [r,p1,p2],_,g,f,b,e=>exact oX i h r p1 p2 g t u s f v b λw k d l m j n o=>e k (by first | (have:=a8 d;simp at this;done) | (first | (have:=a8 d;simp at this;done) | (have:=a8 d;simp at this;simp[this]))) l m j n o
 .rw[b] at p ⊢
  have q:a.length=3:=by rcases p with c|c;exact absurd c (by decide);have c:(a.length:Int)=3:=c;omega
  match a,q,g,f,b,e with
  | [r,p1,p2],_,g,f,b,e=>exact oW i h r p1 p2 g t u s f v b λw k d l m j n o=>e k (by first | (have:=a8 d;simp at this;done) | (first | (have:=a8 d;simp at this;done) | (have:=a8 d;simp at this;simp[this]))) l m j n o
 .rw[b] at p ⊢
  have q:a.length=3:=by rcases p with c|c;exact absurd c (by decide);have c:(a.length:Int)=3:=c;omega
  match a,q,g,f,b,e with
  | [r,p1,p2],_,g,f,b,e=>exact oV i h r p1 p2 g t u s f v b λw k d l m j n o=>e k (by first | (have:=a8 d;simp at this;done) | (first | (have:=a8 d;simp at this;done) | (have:=a8 d;simp at this;simp[this]))) l m j n o
 .rw[b] at p ⊢
  have q:a.length=1:=by rcases p with c|c;exact absurd c (by decide);have c:(a.length:Int)=1:=c;omega
  match a,q,g,f,b,e with
  | [r],_,g,f,b,e=>exact oU i h r g t u s f v b λw k d l m j n o=>e k (by first | (have:=a8 d;simp at this;done) | (first | (have:=a8 d;simp at this;done) | (have:=a8 d;simp at this;simp[this]))) l m j n o
 .rw[b];exact oT i h a g t u s f v b λw k d l m j n o=>e k (List.mem_cons_of_mem _ (a8 d)) l m j n o
 .rw[b] at p ⊢
  have q:a.length=4:=by rcases p with c|c;exact absurd c (by decide);have c:(a.length:Int)=4:=c;omega
  match a,q,g,f,b,e with
  | [r,p1,p2,p3],_,g,f,b,e=>exact oS i h r p1 p2 p3 g t u s f v b λw k d l m j n o=>e k (by first | (have:=a8 d;simp at this;done) | (first | (have:=a8 d;simp at this;done) | (have:=a8 d;simp at this;simp[this]))) l m j n o
 .rw[b] at p ⊢
  have q:a.length=6:=by rcases p with c|c;exact absurd c (by decide);have c:(a.length:Int)=6:=c;omega
  match a,q,g,f,b,e with
  | [r,p1,p2,p3,p4,p5],_,g,f,b,e=>exact mX i h r p1 p2 p3 p4 p5 g t u s f v b λw k d l m j n o=>e k (by first | (have:=a8 d;simp at this;done) | (first | (have:=a8 d;simp at this;done) | (have:=a8 d;simp at this;simp[this]))) l m j n o
 .rw[b] at p ⊢
  have q:a.length=2:=by rcases p with c|c;exact absurd c (by decide);have c:(a.length:Int)=2:=c;omega
  match a,q,g,f,b,e with
  | [r,p1],_,g,f,b,e=>exact mW i h r p1 g t u s f v b λw k d l m j n o=>e k (by first | (have:=a8 d;simp at this;done) | (first | (have:=a8 d;simp at this;done) | (have:=a8 d;simp at this;simp[this]))) l m j n o
 .rw[b] at p ⊢
  have q:a.length=1:=by rcases p with c|c;exact absurd c (by decide);have c:(a.length:Int)=1:=c;omega
  match a,q,g,f,b,e with
  | [r],_,g,f,b,e=>exact mV i h r g t u s f v b λw k d l m j n o=>e k (by first | (have:=a8 d;simp at this;done) | (first | (have:=a8 d;simp at this;done) | (have:=a8 d;simp at this;simp[this]))) l m j n o
theorem jd:∀(j:Nat) (d:Dt),d.size<=j->d.fin->∀(g:Option Addr) (k:Nat) (b:World),Dt.all b g d.l->GT b->Calls prog 18 #[d.val g k] b (cS (bZ d) b)
 | 0,d,i,_,_,_,_,_,_=>by rw[Dt.am] at i;omega
 | j+1,.mk c a f,i,p,g,k,b,o,n=>by have q:=Dt.af p;rw[qp];by_cases e:0<=gt (.mk c a f)/\(gt (.mk c a f)=7∨((Dt.mk c a f).l.tail.length:Int)=bN (gt (.mk c a f)+1));(.rw[aR e];rcases hV (.mk c a f) with h|⟨D,h,s,l⟩;(.exfalso;have m:=e.1;have l:ch aX ⟨#[]⟩=-1:=ep (by decide +kernel);unfold gt at m;rw[hS h,l] at m;omega);.injection l with w x y;subst w x y;refine lP a h s p g k b o n e.1 e.2 λB r u v t z A=>?_;have C:=Dt.an r;rw[Dt.am] at i;have i:Dt.sizes (h::s)+1<=j+1:=i;exact jd j B (by omega) (Dt.ag q.2.2.2 r) u v t z (n.aa A));.rw[aL e];exact mY c a f q.2.2.1 g k b o e
theorem hE(a:List UInt8):ee a=if 20000<a.length then (none,3) else match fY a with
  | none=>(none,5)
  | some b=>if bS b=0 then (some b,0) else (none,bS b):=by
 unfold ee
 rw[<-jg]
 split
 .rfl
 .cases fv a with
  | none=>rfl
  | some c=>rfl
theorem jh{b:List UInt8}(d:b.length<=1000000){p:Pl}(h:fY b=some p):p.fin:=by
 rw[<-jg] at h;cases a:fv b with
 | none=>rw[a] at h;cases h
 | some c=>rw[a] at h;exact nV c.size c aV (ie d a) p h
theorem mK(f:List UInt8)(k:World)(V5:GT k)(N:f.length<=1000000):Calls prog 8 #[.string (bs f)] k (r6 (ee f) k):=by
 obtain⟨W,A⟩:=bq (k.alloc (.cells #[.int .i64 0,.string ⟨#[]⟩,.slice none 0 0,.slice none 0 0,.slice none 0 0,.slice none 0 0,.int .i64 0,.int .i64 0,.int .i64 0,.int .i64 0,.slice none 0 0] 28));have L:Bw k W:=by rw[<-A];exact ae aN _
 have V8:bp W k.heap.size VT:=by rw[<-A];exact bp.new k VT 28
 have R:=VV V8;have WF:Hid (k.heap.size<W.heap.size):=by show _<_;rw[<-A];simp
 have Q:=VV L;have S:=VV A;have WS:=bx f;have i:=mL f N W;rw[hE];by_cases M:20000<f.length;.rw[aR M];(have WM:(20000:Int)<(f.length:Int):=by omega);have a:=U R;obtain⟨l,X⟩:=a 0 _ rfl;obtain⟨m,Y⟩:=a 1 _ rfl;obtain⟨o,VW⟩:=a 2 _ rfl;obtain⟨p,VX⟩:=a 3 _ rfl;obtain⟨q,VY⟩:=a 4 _ rfl;obtain⟨r,VZ⟩:=a 5 _ rfl;obtain⟨s,V0⟩:=a 6 _ rfl;obtain⟨t,V1⟩:=a 7 _ rfl;obtain⟨u,V2⟩:=a 8 _ rfl;obtain⟨w,V3⟩:=a 9 _ rfl;obtain⟨n,Z⟩:=a 10 _ rfl;clear a;clear L V8 A i V5 M N;go_enter func8,ntmps8;go_upto_region 1 with fail;rw[U S];go_wp2;refine aM (v:=.tuple #[ft,.int .i64 3]) (by simp[results,results8,go_sem,l,m,o,p,q,r,s,t,u,w,n]) rfl ?_;exact⟨aJ (U Q) aV _ _ _ _ _ _ _ _ _ _ _,_,rfl,ed⟩
 rw[aL M];have WM:¬(20000:Int)<(f.length:Int):=by omega
 have j:fY f=(nh (br f [] [])).bind bZ:=rfl;have V6:=λz h=>nl f.length f aV [] [] z h (by rw[Dt.ah];trivial) (by simp;omega) (λWt WL=>by cases WL);have V7:=λWt h=>jh (p:=Wt) N h;have WE:=VV (V5.aa L);generalize br f [] []=WN at i j V6;cases WN with
 | none=>rw[show fY f=none from j];have i:=VV i;clear L V8 A V5 M N j V6 V7;go_enter func8,ntmps8;go_upto_region 1 with fail;rw[U S];go_wp2_with (go_at_call 17;refine(U i).mono ?_;rintro C O ⟨c,Wk,WD,Wl,rfl⟩;have y:=VV (ac (U Q) c);have a:=(U R).aa c;obtain⟨l,X⟩:=a 0 _ rfl;obtain⟨m,Y⟩:=a 1 _ rfl;obtain⟨o,VW⟩:=a 2 _ rfl;obtain⟨p,VX⟩:=a 3 _ rfl;obtain⟨q,VY⟩:=a 4 _ rfl;obtain⟨r,VZ⟩:=a 5 _ rfl;obtain⟨s,V0⟩:=a 6 _ rfl;obtain⟨t,V1⟩:=a 7 _ rfl;obtain⟨u,V2⟩:=a 8 _ rfl;obtain⟨w,V3⟩:=a 9 _ rfl;obtain⟨n,Z⟩:=a 10 _ rfl;clear a;clear c);refine aM (v:=.tuple #[ft,.int .i64 5]) (by simp[results,results8,go_sem,l,m,o,p,q,r,s,t,u,w,n]) rfl ?_;exact⟨aJ (U y) aV _ _ _ _ _ _ _ _ _ _ _,_,rfl,ed⟩
 | some z=>
  have Wm:=V6 z rfl;by_cases We:z.length=1
  .obtain⟨e,rfl⟩:∃e,z=[e]:=by
    match z,We with
    | [e],_=>exact⟨e,rfl⟩
   have j:fY f=bZ e:=j
   have Wr:e.fin:=by have:=Wm.1;rw[Dt.ah] at this;exact this.1
   have Wj:=VV λ(Wy:Option Addr) (WI:Nat) (V:World) (WJ:Dt.all V Wy e.l) (WK:Bw W V)=>jd e.size e aV Wr Wy WI V WJ ((U WE).aa WK)
   have i:=VV i
   obtain⟨WO,Ws⟩:=al (bZ e)
   rw[<-Ws] at j Wj
   rw[j] at V7 ⊢
   cases WO with
   | none=>
    clear L V8 A V5 M N j V6 V7 Wm We Wr Ws
    go_enter func8,ntmps8
    go_upto_region 1 with fail
    rw[U S]
    go_upto_region 7 with (first
     | (go_at_call 18;refine(U E).mono ?_;rintro C P ⟨x,b,d,rfl⟩;have g:=ae x (b.box d);have D:=VV (ac (U y) g);have a:=(U Wb).aa g;obtain⟨l,X⟩:=a 0 _ rfl;obtain⟨m,Y⟩:=a 1 _ rfl;obtain⟨o,VW⟩:=a 2 _ rfl;obtain⟨p,VX⟩:=a 3 _ rfl;obtain⟨q,VY⟩:=a 4 _ rfl;obtain⟨r,VZ⟩:=a 5 _ rfl;obtain⟨s,V0⟩:=a 6 _ rfl;obtain⟨t,V1⟩:=a 7 _ rfl;obtain⟨u,V2⟩:=a 8 _ rfl;obtain⟨w,V3⟩:=a 9 _ rfl;obtain⟨n,Z⟩:=a 10 _ rfl;clear a;unfold Pl.box at D l m o p q r s t u w n X Y VW VX VY VZ V0 V1 V2 V3 Z;rw[Pl.ad];clear x g)
     | (go_at_call 17;refine(U i).mono ?_;rintro C O ⟨c,Wk,Wl,rfl,G⟩;obtain⟨Wz,I,Wc,Wd,rfl,⟨Wf,Wg,Wh⟩,F⟩:=Dt.get G (show [e][0]?=some e from rfl);rw[show I+0*3=I by omega] at Wf Wg Wh;have y:=VV (ac (U Q) c);have Wb:=VV ((U R).aa c);have E:=VV (U Wj Wc Wd O F c);rw[Dt.ad] at E;clear c G F))
    go_wp2
    refine aM (v:=.tuple #[ft,.int .i64 5]) (by simp[results,results8,go_sem,l,m,o,p,q,r,s,t,u,w,n]) rfl ?_
    exact⟨aJ (U D) aV _ _ _ _ _ _ _ _ _ _ _,_,rfl,ed⟩
   | some b=>
    have Wi:=VV λ(WC:Pm) (V:World) (h:dN V b WC)=>i7 b (V7 b rfl) WC V h
    show Calls _ _ _ _ (r6 (if bS b=0 then (some b,0) else (none,bS b)) k)
    clear L V8 A V5 M N j V6 V7 Wm We Wr Ws
    by_cases V4:bS b=0
    .rw[aR V4]
     rw[V4] at Wi
     clear V4
     go_enter func8,ntmps8
     go_upto_region 1 with fail
     rw[U S]
     go_wp2_with (first
      | (refine aH ?_ 28 (.tmp 6) rfl _ (by simp[Act.eval]) _ (U Ww) ?_;. simp[Region.wanted,yielded])
      | (refine aH ?_ 28 (.tmp 6) rfl _ (by simp[Act.eval]) _ (U K) ?_;. simp[Region.wanted,yielded])
      | (go_at_call 18;refine(U E).mono ?_;rintro C P ⟨x,d,rfl,V9⟩;have g:=ae (ar _ P) (b.box d);have D:=VV (ac (ac (U y) x) g);have Wa:=VV (((U Wb).aa x).aa g);have Wv:=VV (dL.new P b d);have K:=VV (dL.new P b d).load;have Wq:=VV (V9.now.aa g);have Wx:=VV (V9.up g);have J:=VV (U Wi d _ (U Wq));unfold Pl.box at D Wa Wv K Wx J;rw[Pl.ad] at K J;rw[Pl.ad];clear x g V9)
      | (go_at_call 12;refine(U J).mono ?_;rintro C Wu ⟨rfl,B⟩;have Wp:=VV (ac (U D) B);have a:=(U Wa).aa B;obtain⟨l,X⟩:=a 0 _ rfl;obtain⟨m,Y⟩:=a 1 _ rfl;obtain⟨o,VW⟩:=a 2 _ rfl;obtain⟨p,VX⟩:=a 3 _ rfl;obtain⟨q,VY⟩:=a 4 _ rfl;obtain⟨r,VZ⟩:=a 5 _ rfl;obtain⟨s,V0⟩:=a 6 _ rfl;obtain⟨t,V1⟩:=a 7 _ rfl;obtain⟨u,V2⟩:=a 8 _ rfl;obtain⟨w,V3⟩:=a 9 _ rfl;obtain⟨n,Z⟩:=a 10 _ rfl;clear a;have Ww:=VV ((U Wv).aa B).load;rw[Pl.ad] at Ww;have WH:=VV ((U Wx).up B);clear B)
      | (go_at_call 17;refine(U i).mono ?_;rintro C O ⟨c,Wk,Wl,rfl,G⟩;obtain⟨Wz,I,Wc,Wd,rfl,⟨Wf,Wg,Wh⟩,F⟩:=Dt.get G (show [e][0]?=some e from rfl);rw[show I+0*3=I by omega] at Wf Wg Wh;have WG:=VV c.size;have y:=VV (ac (U Q) c);have Wb:=VV ((U R).aa c);have E:=VV (U Wj Wc Wd O F c);rw[Dt.ad] at E;clear c G F))
     refine aM (v:=.tuple #[.agg #[.int .i64 b.op,.string b.tab,.slice d.aE b.ex.length d.cE,.slice d.aC b.cols.length d.cC,.slice d.aK b.keys.length d.cK,.slice d.aA b.aggs.length d.cA,.int .i64 b.fn,.int .i64 b.col,.int .i64 b.n,.int .i64 b.off,.slice d.aP b.args.length d.cP],.int .i64 0]) (by simp[results,results8,go_sem,l,m,o,p,q,r,s,t,u,w,n]) rfl ?_
     have WQ:=U WF
     have WR:=U WG
     refine⟨aJ (U Wp) aV _ _ _ _ _ _ _ _ _ _ _,d,rfl,?_⟩
     exact((U WH).mono (T:=λWo=>k.heap.size+1<=Wo/\Wo<Wu.heap.size) λWo Wn=>⟨by have:=Wn.1;omega,Wn.2⟩).kept (bR Wu k.heap.size _ _ _ _ _ _ _ _ _ _ _) λWo Wn=>⟨by omega,be Wn.2 (by simp)⟩
    .rw[aL V4]
     obtain⟨WA,WB⟩:=al (bS b)
     rw[<-WB] at Wi V4 ⊢
     have WP:(WA == 0)=false:=by simp[V4]
     clear WB
     go_enter func8,ntmps8
     go_upto_region 1 with fail
     rw[U S]
     go_wp2_with (first
      | (refine aH ?_ 28 (.tmp 6) rfl _ (by simp[Act.eval]) _ (U K) ?_;. simp[Region.wanted,yielded])
      | (go_at_call 18;refine(U E).mono ?_;rintro C P ⟨x,d,rfl,V9⟩;have g:=ae (ar _ P) (b.box d);have D:=VV (ac (ac (U y) x) g);have Wa:=VV (((U Wb).aa x).aa g);have K:=VV (dL.new P b d).load;have Wq:=VV (V9.now.aa g);have J:=VV (U Wi d _ (U Wq));unfold Pl.box at D Wa K J;rw[Pl.ad] at K J;rw[Pl.ad];clear x g V9)
      | (go_at_call 12;refine(U J).mono ?_;rintro C Wu ⟨rfl,B⟩;have Wp:=VV (ac (U D) B);have a:=(U Wa).aa B;obtain⟨l,X⟩:=a 0 _ rfl;obtain⟨m,Y⟩:=a 1 _ rfl;obtain⟨o,VW⟩:=a 2 _ rfl;obtain⟨p,VX⟩:=a 3 _ rfl;obtain⟨q,VY⟩:=a 4 _ rfl;obtain⟨r,VZ⟩:=a 5 _ rfl;obtain⟨s,V0⟩:=a 6 _ rfl;obtain⟨t,V1⟩:=a 7 _ rfl;obtain⟨u,V2⟩:=a 8 _ rfl;obtain⟨w,V3⟩:=a 9 _ rfl;obtain⟨n,Z⟩:=a 10 _ rfl;clear a;clear B)
      | (go_at_call 17;refine(U i).mono ?_;rintro C O ⟨c,Wk,Wl,rfl,G⟩;obtain⟨Wz,I,Wc,Wd,rfl,⟨Wf,Wg,Wh⟩,F⟩:=Dt.get G (show [e][0]?=some e from rfl);rw[show I+0*3=I by omega] at Wf Wg Wh;have y:=VV (ac (U Q) c);have Wb:=VV ((U R).aa c);have E:=VV (U Wj Wc Wd O F c);rw[Dt.ad] at E;clear c G F))
     refine aM (v:=.tuple #[ft,.int .i64 WA]) (by simp[results,results8,go_sem,l,m,o,p,q,r,s,t,u,w,n]) rfl ?_
     exact⟨aJ (U Wp) aV _ _ _ _ _ _ _ _ _ _ _,_,rfl,ed⟩
  .have j:fY f=none:=by
    rw[j]
    match z,We with
    | [],_=>rfl
    | [e],h=>exact absurd rfl h
    | _::_::_,_=>rfl
   rw[j]
   have WD:¬(z.length:Int)=1:=by omega
   have WT:((z.length:Int) != 1)=true:=by simpa using WD
   have i:=VV i
   clear L V8 A V5 M N j V6 V7 Wm We
   go_enter func8,ntmps8
   go_upto_region 1 with fail
   rw[U S]
   go_wp2_with (go_at_call 17;refine(U i).mono ?_;rintro C O ⟨c,Wk,Wl,rfl,_⟩;have y:=VV (ac (U Q) c);have a:=(U R).aa c;obtain⟨l,X⟩:=a 0 _ rfl;obtain⟨m,Y⟩:=a 1 _ rfl;obtain⟨o,VW⟩:=a 2 _ rfl;obtain⟨p,VX⟩:=a 3 _ rfl;obtain⟨q,VY⟩:=a 4 _ rfl;obtain⟨r,VZ⟩:=a 5 _ rfl;obtain⟨s,V0⟩:=a 6 _ rfl;obtain⟨t,V1⟩:=a 7 _ rfl;obtain⟨u,V2⟩:=a 8 _ rfl;obtain⟨w,V3⟩:=a 9 _ rfl;obtain⟨n,Z⟩:=a 10 _ rfl;clear a;clear c)
   refine aM (v:=.tuple #[ft,.int .i64 5]) (by simp[results,results8,go_sem,l,m,o,p,q,r,s,t,u,w,n]) rfl ?_
   exact⟨aJ (U y) aV _ _ _ _ _ _ _ _ _ _ _,_,rfl,ed⟩
theorem m9(c:List UInt8)(b:World)(g:20000<c.length):Calls prog 7 #[.string (bs c)] b (r6 (ee c) b):=by
 obtain⟨e,d⟩:=bq (b.alloc (.cells #[.int .i64 0,.string ⟨#[]⟩,.slice none 0 0,.slice none 0 0,.slice none 0 0,.slice none 0 0,.int .i64 0,.int .i64 0,.int .i64 0,.int .i64 0,.slice none 0 0] 28));have f:Bw b e:=by rw[<-d];exact ae aN _
 have i:bp e b.heap.size VT:=by rw[<-d];exact bp.new b VT 28
 have a:=VV i;have j:=VV f;have k:=VV d;have J:=bx c;rw[hE,aR g];have K:(20000:Int)<(c.length:Int):=by omega
 obtain⟨l,x⟩:=(U a) 0 _ rfl;obtain⟨m,y⟩:=(U a) 1 _ rfl;obtain⟨o,A⟩:=(U a) 2 _ rfl;obtain⟨p,B⟩:=(U a) 3 _ rfl;obtain⟨q,C⟩:=(U a) 4 _ rfl;obtain⟨r,D⟩:=(U a) 5 _ rfl;obtain⟨s,E⟩:=(U a) 6 _ rfl;obtain⟨t,F⟩:=(U a) 7 _ rfl;obtain⟨u,G⟩:=(U a) 8 _ rfl;obtain⟨w,I⟩:=(U a) 9 _ rfl;obtain⟨n,z⟩:=(U a) 10 _ rfl;clear f i d g;go_enter func7,ntmps7;go_upto_region 1 with fail;rw[U k];go_wp2;refine aM (v:=.tuple #[ft,.int .i64 3]) (by simp[results,results7,go_sem,l,m,o,p,q,r,s,t,u,w,n]) rfl ?_;exact⟨aJ (U j) aV _ _ _ _ _ _ _ _ _ _ _,_,rfl,ed⟩
theorem na(a:List UInt8)(b:World)(c:GT b):Calls prog 7 #[.string (bs a)] b (r6 (ee a) b):=by
 by_cases h:20000<a.length;.exact m9 a b h
 .exact pd a b c (by omega)
theorem m7(c:List UInt8)(b:World)(g:20000<c.length):Calls prog 8 #[.string (bs c)] b (r6 (ee c) b):=by
 obtain⟨e,d⟩:=bq (b.alloc (.cells #[.int .i64 0,.string ⟨#[]⟩,.slice none 0 0,.slice none 0 0,.slice none 0 0,.slice none 0 0,.int .i64 0,.int .i64 0,.int .i64 0,.int .i64 0,.slice none 0 0] 28));have f:Bw b e:=by rw[<-d];exact ae aN _
 have i:bp e b.heap.size VT:=by rw[<-d];exact bp.new b VT 28
 have a:=VV i;have j:=VV f;have k:=VV d;have J:=bx c;rw[hE,aR g];have K:(20000:Int)<(c.length:Int):=by omega
 obtain⟨l,x⟩:=(U a) 0 _ rfl;obtain⟨m,y⟩:=(U a) 1 _ rfl;obtain⟨o,A⟩:=(U a) 2 _ rfl;obtain⟨p,B⟩:=(U a) 3 _ rfl;obtain⟨q,C⟩:=(U a) 4 _ rfl;obtain⟨r,D⟩:=(U a) 5 _ rfl;obtain⟨s,E⟩:=(U a) 6 _ rfl;obtain⟨t,F⟩:=(U a) 7 _ rfl;obtain⟨u,G⟩:=(U a) 8 _ rfl;obtain⟨w,I⟩:=(U a) 9 _ rfl;obtain⟨n,z⟩:=(U a) 10 _ rfl;clear f i d g;go_enter func8,ntmps8;go_upto_region 1 with fail;rw[U k];go_wp2;refine aM (v:=.tuple #[ft,.int .i64 3]) (by simp[results,results8,go_sem,l,m,o,p,q,r,s,t,u,w,n]) rfl ?_;exact⟨aJ (U j) aV _ _ _ _ _ _ _ _ _ _ _,_,rfl,ed⟩
theorem m8(a:List UInt8)(b:World)(c:GT b):Calls prog 8 #[.string (bs a)] b (r6 (ee a) b):=by
 by_cases h:20000<a.length;.exact m7 a b h
 .exact mK a b c (by omega)
theorem m6(c:List UInt8):((ee c).1.getD rk).fin:=by
 have a:rk.fin:=by unfold rk;rw[Pl.fin,Pl.ah];refine⟨⟨by decide,by decide,by decide,by decide,by decide,by decide,by unfold b2;decide,?_,?_,?_⟩,?_,?_⟩;all_goals first|trivial | (intro f e;cases e) | (rw[Ex.ah];trivial)|simp
 rw[hE];split;.exact a
 .rename_i h
  cases d:fY c with
  | none=>exact a
  | some b=>
   show ((if bS b=0 then (some b,0) else (none,bS b):Option Pl×Int).1.getD rk).fin
   split
   .exact jh (by omega) d
   .exact a
theorem pJ{p:Pl}(h:bS p=0):dO p=true:=by
 unfold bS at h;cases a:e3 p 400 40 with
 | none=>rw[a] at h;simp at h
 | some c=>
  rw[a] at h
  cases b:dO p with
  | false=>rw[b] at h;simp at h
  | true=>rfl
theorem sq(p:Pl)(t:p.fin)(u:p.finO)(b:Pm)(a:World)(r:dN a p b)(l:GT a)(g:List UInt8):Calls prog 3 #[p.val b,.string (bs g)] a λf Wh=>f=.returned (.bool true)/\Bw a Wh:=by
 obtain⟨M,q⟩:=bq (a.alloc (.cells #[.int .i64 p.op,.string p.tab,.slice b.aE p.ex.length b.cE,.slice b.aC p.cols.length b.cC,.slice b.aK p.keys.length b.cK,.slice b.aA p.aggs.length b.cA,.int .i64 p.fn,.int .i64 p.col,.int .i64 p.n,.int .i64 p.off,.slice b.aP p.args.length b.cP] 28));have O:Bw a M:=by rw[<-q];exact ae (ar _ a) _
 have G:Hid (dL M a.heap.size 0 p b):=by show dL _ _ _ _ _;rw[<-q];exact dL.new a p b
 have B:=VV O;have We:=VV q;have v:=VV (λ(c:World) (d:Bw a c)=>oQ p t b c (r.aa d) (l.aa d) λh=>ix u h);have w:=VV (λ(c:World) (d:Bw a c)=>oJ p t b c (r.aa d) (λh=>ix u h) λh Wf o=>kR p.size p aV (pJ h) (ix u h).1 t b Wf ((r.aa d).aa o) ((l.aa d).aa o));have j:=VV (λ(c:World) (d:Bw a c)=>na g c (l.aa d));have k:=VV (λ(c:World) (d:Bw a c)=>m8 g c (l.aa d));have y:=m6 g;obtain⟨e,W⟩:=al ((ee g).1.getD rk);obtain⟨Wl,V⟩:=al ((ee g).2);unfold r6 at j k;rw[<-W] at j k y;rw[<-V] at j k;have V5:=VV λ(VW VX:Pm) (c:World) (Wg:dN c e VW) (o:dN c e VX)=>hw e.size e aV y VW VX c Wg o;obtain⟨Wj,N⟩:=al (if bS p=0 then bs (cX p) else bs []);obtain⟨Wk,T⟩:=al (bS p);rw[<-N,<-T] at v w;obtain⟨Wm,Z⟩:=al (bs g);rw[<-Z] at j k ⊢;have I:=VV (U G).load;rw[Pl.ad] at v w I ⊢;clear O q r t u l W V y N T Z;go_enter func3,ntmps3;go_upto_region 1 with fail;rw[U We]
 go_upto_region 3 with (first
  | (refine aH ?_ 28 (.tmp 2) rfl _ (by simp[Act.eval]) _ (U J) ?_;. simp[Region.wanted,yielded])
  | (refine aH ?_ 28 (.tmp 2) rfl _ (by simp[Act.eval]) _ (U I) ?_;. simp[Region.wanted,yielded])
  | (go_at_call 5;refine(U w _ (U C)).mono ?_;rintro f Wo ⟨rfl,P⟩;have V0:=VV (ac (U C) P);clear P)
  | (go_at_call 4;refine(U v _ (U B)).mono ?_;rintro f Wn ⟨rfl,x⟩;have C:=VV (ac (U B) x);have J:=VV ((U G).aa x).load;rw[Pl.ad] at J;clear x))
 go_upto_region 5 with (go_at_call 6;refine(n2 _ _).mono ?_;rintro f Wp ⟨rfl,Q⟩;have D:=VV (ac (U V0) Q);clear Q);go_upto_region 6 with (go_at_call 7;refine(U j _ (U D)).mono ?_;rintro f VY ⟨R,z,rfl,X⟩;have E:=VV (ac (U D) R);have V9:=VV X.now;rw[Pl.ad];clear R X);go_upto_region 7 with (go_at_call 8;have m:=VV (ae (ar _ VY) (e.box z));refine(U k _ (ac (U E) (U m))).mono ?_;rintro f VZ ⟨s,A,rfl,Y⟩;have V1:=VV (ac (ac (U E) (U m)) s);have Wa:=VV Y.now;have Wc:=VV (((U V9).aa (U m)).aa s);have V6:=VV ((dL.new VY e z).aa s);rw[Pl.ad];clear s Y m);have n:=VV (ae (ar _ VZ) (e.box A));have V2:=VV (ac (U V1) (U n));have Wb:=VV ((U Wa).aa (U n));have Wd:=VV ((U Wc).aa (U n));have V7:=VV ((U V6).aa (U n));have V8:=VV (dL.new VZ e A)
 go_wp2_with (first
  | ((refine aH ?_ 28 (.tmp 9) rfl _ (by simp[Act.eval]) _ (U K) ?_;. simp[Region.wanted,yielded]);(refine aH ?_ 28 (.tmp 10) rfl _ (by simp[Act.eval,Act.put,go_sem]) _ (U L) ?_;. simp[Region.wanted,yielded,Act.put,go_sem]))
  | (go_at_call 9;refine(U F).mono ?_;rintro f Wq ⟨rfl,S⟩;have V4:=VV (ac (U V3) S);clear S)
  | (go_at_call 6;refine(n2 _ _).mono ?_;rintro f Wi ⟨rfl,i⟩;have V3:=VV (ac (U V2) i);have K:=VV ((U V7).aa i).load;have L:=VV ((U V8).aa i).load;have F:=VV (U V5 z A Wi ((U Wd).aa i) ((U Wb).aa i));rw[Pl.ad] at K L;rw[Pl.ad,Pl.ad] at F;clear i))
 go_ret;exact⟨rfl,U V4⟩
end Go.Proofs.YtabmgpillccfaaaGreatDoor

import Derived.Test.YtabmgpillccfaaaGreatDoorUbT
import Derived.Test.YtabmgpillccfaaaGreatDoorUbP
set_option linter.all false
set_option maxHeartbeats 4000000
set_option maxRecDepth 100000
namespace Go.Proofs.YtabmgpillccfaaaGreatDoor
open Go.RowKit Go.Sort Go.Proofs.Tryz
theorem mL(e:List UInt8)(X3:e.length<=1000000)(g:World):Calls prog 17 #[.string (bs e)] g (VB (br e [] []) g):=by
 have WZ:=bx e;obtain⟨t,WT⟩:=al (br e [] []);rw[<-WT];obtain⟨W7,WF⟩:=al ((g.alloc (.cells #[.slice none 0 0] 99)).alloc (.cells #[.slice (some ⟨g.heap.size,0,none⟩) 1 1] 100));have A:Bw g W7:=by rw[WF];exact ae (ae (ar _ g) _) _
 have Xt:Hid (rj g e t (g.heap.size+1) 0 W7):=⟨g.heap.size+2,_,_,[],[],by rw[WF];exact lY g,A,WT,aV,λc f=>by simp at f;subst f;exact aV⟩;have Xv:=VV WF.symm;clear WT A WF;go_enter func17,ntmps17;go_upto_region 2 with fail;rw[U Xv];go_wp2_with fail;go_loopw[6] (λj V2=>∃a:Nat,a<=e.length/\j=.int .i64 a/\Hid (rj g e t (g.heap.size+1) a V2)) (λj V2=>e.length-(intOf j).toNat);case atStart=>exact⟨0,bf,rfl,Xt⟩
 case round=>
  obtain⟨a,Xf,rfl,N⟩:=hrel;have XG:=U N;obtain⟨X,X8,B,m,p,l,u,o,r,n⟩:=XG;have WX:=l.c;have XZ:=l.f;obtain⟨P,VZ,rfl,X1,X2⟩:=kJ l.row (Nat.succ_pos _);by_cases WC:a<e.length
  ·(have XK:(a:Int)<(e.length:Int):=by omega);obtain⟨d,K⟩:∃d,e[a]?=some d:=⟨_,ba WC⟩;have z:=om K;rw[z] at o;have W1:=hm (bs e) a (by rw[WZ];exact WC);rw[eR K] at W1;obtain⟨k,v⟩:=al (e.drop (a+1));rw[<-v] at o z;have T:=VV u;by_cases x:d=32∨d=9∨d=10;(.rcases x with x|x|x;(.subst x;have q:=VV (show rj g e t (g.heap.size+1) (a+1) wr from⟨X,_,B,m,p,l,u,by rw[o,fx _ _ _ (by decide),v],by omega,λc f=>Nat.le_succ_of_le (n c f)⟩);clear o l n r u z K v N;go_wp2;go_roundw;(case rel=>exact⟨a+1,by omega,by go_num,q⟩);case measure=>simp[intOf]<;>omega);(.subst x;have q:=VV (show rj g e t (g.heap.size+1) (a+1) wr from⟨X,_,B,m,p,l,u,by rw[o,fx _ _ _ (by decide),v],by omega,λc f=>Nat.le_succ_of_le (n c f)⟩);clear o l n r u z K v N;go_wp2;go_roundw;(case rel=>exact⟨a+1,by omega,by go_num,q⟩);case measure=>simp[intOf]<;>omega);.subst x;have q:=VV (show rj g e t (g.heap.size+1) (a+1) wr from⟨X,_,B,m,p,l,u,by rw[o,fx _ _ _ (by decide),v],by omega,λc f=>Nat.le_succ_of_le (n c f)⟩);clear o l n r u z K v N;go_wp2;go_roundw;(case rel=>exact⟨a+1,by omega,by go_num,q⟩);case measure=>simp[intOf]<;>omega);by_cases Wg:d=40;(.subst Wg;have WV:=ae (ar _ wr) (.cells #[.slice none 0 0] 99);obtain⟨XB,XA,XP,Xh,XY,X0,WU,WW⟩:=(l.aa WV).opn 100 (g:=wr.heap.size) (by simp[go_sem]) (by omega);obtain⟨XR,W0⟩:=al (XP.setCell ⟨g.heap.size+1,0,none⟩ (.slice (some ⟨XB,0,none⟩) (p.length+2) XA));rw[<-W0] at WU WW;have q:=VV (show rj g e t (g.heap.size+1) (a+1) XR from⟨_,_,_,[],(B,m)::p,WU,(ac u WV).trans WW,by rw[o,io,v];rfl,by simp;omega,λc f=>by rcases dm f with rfl|f;exact bf;exact Nat.le_succ_of_le (n c f)⟩);have Xu:=VV Xh;have Xy:=VV W0.symm;clear o l n r u z K v N WV WU WW Xh W0;go_upto_region 11 with (refine di rfl (.tmp 37) (.tmp 39) 100 rfl (.slice (some ⟨P,0,none⟩) (p.length+1) VZ) (.slice (some ⟨wr.heap.size,0,none⟩) 1 1) rfl (by simp[Act.eval,go_sem]) (U Xu) ?_);rw[U Xy];go_wp2;go_roundw;(case rel=>exact⟨a+1,by omega,by go_num,q⟩);case measure=>simp[intOf]<;>omega);by_cases Wh:d=41
   .subst Wh
    cases p with
    | nil=>
     have q:Hid (t=none):=by show _=_;rw[o];exact hN _ _
     clear o l n r u z K v N
     go_wp2
     go_ret2
     rw[U q]
     exact⟨U T,none,0,0,rfl⟩
    | cons Xp p=>
     obtain⟨W5,Wc⟩:=Xp
     obtain⟨V7,O,R,_⟩:=l.gd.node
     have R:B=.slice V7 m.length (m.length+O):=R
     obtain⟨Xl,Xz,W8,Ww,WE,V9⟩:=l.pop
     have Ww:B=.slice Xz m.length (m.length+W8):=Ww
     rw[R] at Ww
     obtain⟨rfl,_,s⟩:=e6 Ww
     have s:O=W8:=by omega
     subst s
     obtain⟨V1,Wk⟩:=al (p.length+1)
     obtain⟨E,Q⟩:=al (((W5,Wc)::p).length+1)
     have XH:E=V1+1:=by rw[Q,Wk];rfl
     have Wi:wr.cell? ⟨P,V1,none⟩=some (.slice V7 m.length (m.length+O)):=by
      rw[World.ownsRow.cellAt l.row V1 (by simp;omega),Wk,List.reverse_cons,bX,gn (by simp),<-R]
      simp
     have XE:E<=VZ:=by
      rcases l.row.2 with ⟨s,_⟩|⟨_,_,_,s,_,_,h,_⟩
      .cases s
      .obtain⟨_,_,rfl⟩:=e6 s;rw[Q];exact h
     have WI:=λi=>lv P E VZ V1 i (by omega)
     rw[<-Q] at WX
     rw[<-Wk] at WE V9
     obtain⟨WJ,Wy⟩:=al (wr.setCell ⟨g.heap.size+1,0,none⟩ (.slice (some ⟨P,0,none⟩) V1 VZ))
     rw[<-Wy] at WE V9
     have Xa:Bw g WJ:=by rw[Wy];exact u.setCell (p:=⟨g.heap.size+1,0,none⟩) (Nat.le_succ _) _
     have XI:WJ.heap.size=wr.heap.size:=by rw[Wy];simp
     have G:=VV λ(i:World) (V:Bw WJ i)=>iQ (WE.aa V) (g1 (m.map Prod.fst),V7,O) ((V9.aa V).mono λa WY=>⟨WY.1,by have:=WY.2.1;have:=V.size;omega,WY.2.2⟩) (by have:=n (W5,Wc) (by simp);simp at this;omega) (by simp at r;omega)
     simp only[Dt.ad,g1,Dt.k,Dt.s,Dt.l,VP] at G
     have I:t=br k ((Wc++[(g1 (m.map Prod.fst),V7,O)]).map Prod.fst) (p.map λc=>c.2.map Prod.fst):=by
      rw[o]
      show br (41::k) (m.map Prod.fst) (Wc.map Prod.fst::p.map λc=>c.2.map Prod.fst)=_
      rw[kV,bX];rfl
     have V3:Hid (∀i,rf (g.heap.size+1) g.heap.size Xl (.slice (some ⟨P,0,none⟩) V1 VZ) (Wc++[(g1 (m.map Prod.fst),V7,O)]) p i->Bw g i->rj g e t (g.heap.size+1) (a+1) i):=λi V8 w=>by
      obtain⟨Wd,Wa⟩:=V8
      refine⟨Xl,_,Wd,_,p,Wa,w,by rw[I,v],by simp at r;omega,λc f=>?_⟩
      rcases dm f with rfl|f
      .have:=n (W5,Wc) (by simp)
       rw[bj,List.length_singleton]
       have:Wc.length<=a:=this
       omega
      .exact Nat.le_succ_of_le (n c (by simp[f]))
     have XX:wrap64 ((E:Int)-1)=(V1:Int):=by unfold wrap64;omega
     have XJ:(V1:Int)<(E:Int):=by omega
     have XL:¬(E:Int)=1:=by omega
     have Xn:((E:Int) == 1)=false:=by simpa using XL
     have Xw:=VV Wy.symm
     have Xs:=VV Xa
     generalize m.length+O=XV at *
     generalize m.length=nq at *
     clear o I l WE V9 n r u z K v N R Ww XE Wy Xa XI Wk Q XH
     go_upto_region 17 with fail
     rw[U Xw]
     go_upto_region 18 with (first
      | (go_at_call 51;refine(U G _ (U F)).mono ?_;rintro W4 We ⟨rfl,J,L⟩;have q:=VV (U V3 We L ((ac (U Xs) (U F)).trans J));clear J L)
      | (go_at_call 42;refine(cc _ _ _ _).mono ?_;rintro WA S ⟨rfl,A⟩;have F:=VV A;clear A))
     go_wp2
     go_roundw
     case rel=>exact⟨a+1,by omega,by go_num,q⟩
     case measure=>simp[intOf]<;>omega
   by_cases Wf:d=34
   .subst Wf;(have C:k.length=e.length-(a+1):=by rw[v,List.length_drop]);(have Wv:∀j,k[j]?=e[a+1+j]?:=λj=>by rw[v,List.getElem?_drop]);rw[kl] at o;have VX:=VV o;have VY:=VV l;have V5:=VV C;have V4:=VV Wv;have Y:=VV z;have WM:=VV v;have VW:=VV n;have Z:=VV r;have WK:Hid (∀j c,j<a+1-(a+1)->k[j]?=some c->(c != 34)=true):=λj c V0=>absurd V0 (by omega);clear o l n r u z K v N C Wv;go_wp2_with fail;go_loopw[9] (λc V2=>∃b:Nat,a+1<=b/\b<=e.length/\c=.int .i64 (b:Int)/\V2=wr/\Hid (∀j c,j<b-(a+1)->k[j]?=some c->(c != 34)=true)) (λc V2=>e.length-(intOf c).toNat);case atStart=>exact⟨a+1,aV,by omega,by go_num,(by first|rfl|trivial),WK⟩
    case round=>
     obtain⟨b,Xd,Xe,rfl,rfl,D⟩:=hrel;have C:=U V5;by_cases Wj:b<e.length
     ·(have W3:(b:Int)<(e.length:Int):=by omega);(have Xn:¬(b:Int)=(e.length:Int):=by omega);(have XM:((b:Int) == (e.length:Int))=false:=by simpa using Xn);obtain⟨y,W⟩:∃y,e[b]?=some y:=⟨_,ba Wj⟩;have W2:=hm (bs e) b (by rw[WZ];exact Wj);rw[eR W] at W2;(have M:k[b-(a+1)]?=some y:=by rw[U V4,show a+1+(b-(a+1))=b by omega,W]);by_cases WH:y=34
      .subst WH;have w:=gv k (b-(a+1)) (by omega) (U D) (λc f=>by rw[M] at f;injection f with f;subst f;rfl);(have Xi:ei k=some (k.take (b-(a+1)),k.drop (b+1-(a+1))):=by unfold ei;rw[aR (a8 M),w.1,w.2,List.tail_drop];congr 3;omega);(have Xj:(e.drop a).take (b+1-a)=34::(k.take (b-(a+1))++[34]):=by rw[U Y,show b+1-a=(b-(a+1))+1+1 by omega,List.take_succ_cons,List.take_succ,M];rfl);have WI:=λi=>j3 e a (b+1) (a:Int) ((b:Int)+1) rfl (by omega) (by omega) (by omega) i;rw[Xj] at WI;have o:=U VX;rw[Xi] at o;have l:=U VY;have n:=U VW;have r:=U Z;(have I:t=br (e.drop (b+1)) ((m++[(el (34::(k.take (b-(a+1))++[34])),none,0)]).map Prod.fst) (p.map λc=>c.2.map Prod.fst):=by rw[o,bX,show e.drop (b+1)=k.drop (b+1-(a+1)) by rw[U WM,List.drop_drop];congr 1;omega];rfl);have G:=VV λ(i:World) (V:Bw wr i)=>iQ (l.aa V) (el (34::(k.take (b-(a+1))++[34])),none,0) (λWn _=>(show Dt.all Wn none [] by rw[Dt.all];trivial)) (by have:=n (B,m) (by simp);have:m.length<=a:=this;omega) (by omega);simp only[Dt.ad,el,Dt.k,Dt.s,Dt.l,List.length_nil,aT] at G;(have V3:Hid (∀i,rf (g.heap.size+1) g.heap.size X (.slice (some ⟨P,0,none⟩) (p.length+1) VZ) (m++[(el (34::(k.take (b-(a+1))++[34])),none,0)]) p i->Bw g i->rj g e t (g.heap.size+1) (b+1) i):=λi V8 w=>by obtain⟨Wd,Wa⟩:=V8;refine⟨X,_,Wd,_,p,Wa,w,I,by omega,λc f=>?_⟩;rcases dm f with rfl|f;(.have:=n (B,m) (by simp);rw[bj,List.length_singleton];have:m.length<=a:=this;omega);.exact aQ (n c (by simp[f])) (by omega));generalize (34::(k.take (b-(a+1))++[34]))=W6 at *;clear o I l n r Xi Xj w D VX VY VW Z V5 V4 Y WM M W C
       go_upto_region 26 with (first
        | (go_at_call 51;refine(U G _ (U F)).mono ?_;rintro W4 We ⟨rfl,J,L⟩;have q:=VV (U V3 We L ((ac (U T) (U F)).trans J));clear J L)
        | (go_at_call 41;refine(bI _ _).mono ?_;rintro WA S ⟨rfl,A⟩;have F:=VV A;clear A))
       go_wp2;go_roundw;(case rel=>exact⟨b+1,by omega,by go_num,q⟩);case measure=>simp[intOf]<;>omega
      .have Wb:¬(y.toNat:Int)=34:=λs=>WH (UInt8.toNat_inj.1 (by rw[show (34:UInt8).toNat=34 from rfl];omega));(have XU:((y.toNat:Int) != 34)=true:=by simpa using Wb);(have WL:Hid (∀j c,j<b+1-(a+1)->k[j]?=some c->(c != 34)=true):=λj c V0 f=>by rcases Nat.lt_or_eq_of_le (show j<=b-(a+1) by omega) with h|rfl;(.exact U D j c h f);.rw[M] at f;injection f with f;subst f;simpa using WH);generalize (y.toNat:Int)=Xq at *;clear M W WH D C;go_wp2;go_roundw;(case rel=>exact⟨b+1,by omega,by omega,by go_num,(by first|rfl|trivial),WL⟩);case measure=>simp[intOf]<;>omega
     ·(have Xc:b=e.length:=by omega);(have W3:¬(b:Int)<(e.length:Int):=by omega);(have XM:((b:Int) == (e.length:Int))=true:=by rw[Xc];simp);(have q:Hid (t=none):=by show _=_;rw[U VX];(have:ei k=none:=by unfold ei;rw[aL];intro Wk;obtain⟨j,V0⟩:=List.mem_iff_getElem?.1 Wk;have X4:=(b6 V0).1;have:=U D j 34 (by omega) V0;simp at this);rw[this]);clear D C Wj VX VY VW Z V5 V4 Y WM Xc;go_wp2;go_ret2;rw[U q];exact⟨U T,none,0,0,rfl⟩
   by_cases Wz:bn d=true
   .have Wl:bn d=true:=Wz;have V6:=VV λi=>h7 d i;rw[Wl] at V6;(have C:(d::k).length=e.length-a:=by rw[<-z,List.length_drop]);(have Wv:∀j,(d::k)[j]?=e[a+j]?:=λj=>by rw[<-z,List.getElem?_drop]);rw[im _ _ _ Wl] at o;have VX:=VV o;have VY:=VV l;have V5:=VV C;have V4:=VV Wv;have Y:=VV z;have VW:=VV n;have Z:=VV r;have Xx:=VV Wl;have WK:Hid (∀j c,j<a-a->(d::k)[j]?=some c->bn c=true):=λj c V0=>absurd V0 (by omega);have Wp:¬(d.toNat:Int)=32:=λs=>x (.inl (UInt8.toNat_inj.1 (by rw[show (32:UInt8).toNat=32 from rfl];omega)));have Wt:¬(d.toNat:Int)=9:=λs=>x (.inr (.inl (UInt8.toNat_inj.1 (by rw[show (9:UInt8).toNat=9 from rfl];omega))));have Wo:¬(d.toNat:Int)=10:=λs=>x (.inr (.inr (UInt8.toNat_inj.1 (by rw[show (10:UInt8).toNat=10 from rfl];omega))));have Wr:¬(d.toNat:Int)=40:=λs=>Wg (UInt8.toNat_inj.1 (by rw[show (40:UInt8).toNat=40 from rfl];omega));have Ws:¬(d.toNat:Int)=41:=λs=>Wh (UInt8.toNat_inj.1 (by rw[show (41:UInt8).toNat=41 from rfl];omega));have Wq:¬(d.toNat:Int)=34:=λs=>Wf (UInt8.toNat_inj.1 (by rw[show (34:UInt8).toNat=34 from rfl];omega));(have WO:((d.toNat:Int) == 32)=false:=by simpa using Wp);(have WS:((d.toNat:Int) == 9)=false:=by simpa using Wt);(have WN:((d.toNat:Int) == 10)=false:=by simpa using Wo);(have WQ:((d.toNat:Int) == 40)=false:=by simpa using Wr);(have WR:((d.toNat:Int) == 41)=false:=by simpa using Ws);(have WP:((d.toNat:Int) == 34)=false:=by simpa using Wq);obtain⟨XS,Wb⟩:=al (d.toNat:Int);rw[<-Wb] at W1 V6 Wp Wt Wo Wr Ws Wq WO WS WN WQ WR WP;clear o l n r u z K v N C Wv Wb x Wg Wh Wf Wl Wz;go_wp2_with (go_at_call 52;refine(U V6 _).mono ?_;rintro WA S ⟨rfl,rfl⟩);go_loopw[10] (λc V2=>∃b:Nat,a<=b/\b<=e.length/\c=.int .i64 (b:Int)/\V2=S/\Hid (∀j c,j<b-a->(d::k)[j]?=some c->bn c=true)) (λc V2=>e.length-(intOf c).toNat);case atStart=>exact⟨a,aV,by omega,(by first|rfl|trivial),(by first|rfl|trivial),WK⟩
    case round=>
     obtain⟨b,Xd,Xe,rfl,rfl,D⟩:=hrel;have C:=U V5;(have WG:(∀c,(d::k)[b-a]?=some c->bn c=false)->a+1<=b/\(e.drop a).take (b-a)=d::k.takeWhile bn/\e.drop b=k.dropWhile bn:=λh=>by have w:=gv (d::k) (b-a) (by omega) (U D) h;have Wl:=U Xx;rw[List.takeWhile_cons,List.dropWhile_cons,Wl] at w;simp only[if_true] at w;refine⟨?_,by rw[U Y];exact w.1.symm,?_⟩;(.rcases Nat.lt_or_ge a b with W9|W9;(.exact W9);.exfalso;have:=w.1;rw[show b-a=0 by omega,List.take_zero] at this;cases this);.rw[w.2,<-U Y,List.drop_drop];congr 1;omega);(have Wu:(∀c,(d::k)[b-a]?=some c->bn c=false)->a+1<=b/\(∀i,(Instr.slice 9 (.string (bs e)) (some (.int .i64 (a:Int))) (some (.int .i64 (b:Int))) none).run prog i=.ok (.string (bs (d::k.takeWhile bn))) i)/\t=br (e.drop b) ((m++[(el (d::k.takeWhile bn),none,0)]).map Prod.fst) (p.map λc=>c.2.map Prod.fst):=λh=>by obtain⟨WC,XC,XD⟩:=WG h;refine⟨WC,λi=>?_,?_⟩;(.have:=j3 e a b (a:Int) (b:Int) rfl rfl Xd Xe i;rw[XC] at this;exact this);.rw[U VX,XD,bX];rfl);by_cases Wj:b<e.length
     .have W3:(b:Int)<(e.length:Int):=by omega
      obtain⟨y,W⟩:∃y,e[b]?=some y:=⟨_,ba Wj⟩
      have W2:=hm (bs e) b (by rw[WZ];exact Wj)
      rw[eR W] at W2
      have M:(d::k)[b-a]?=some y:=by rw[U V4,show a+(b-a)=b by omega,W]
      have WB:=VV λi=>h7 y i
      cases Wm:bn y with
      | false=>
       rw[Wm] at WB
       obtain⟨Xf,WI,I⟩:=Wu λc f=>by rw[M] at f;injection f with f;subst f;exact Wm
       have l:=U VY
       have n:=U VW
       have r:=U Z
       have G:=VV λ(i:World) (V:Bw wr i)=>iQ (l.aa V) (el (d::k.takeWhile bn),none,0) (λWn _=>(show Dt.all Wn none [] by rw[Dt.all];trivial)) (by have:=n (B,m) (by simp);have:m.length<=a:=this;omega) (by omega)
       simp only[Dt.ad,el,Dt.k,Dt.s,Dt.l,List.length_nil,aT] at G
       have V3:Hid (∀i,rf (g.heap.size+1) g.heap.size X (.slice (some ⟨P,0,none⟩) (p.length+1) VZ) (m++[(el (d::k.takeWhile bn),none,0)]) p i->Bw g i->rj g e t (g.heap.size+1) b i):=λi V8 w=>by
        obtain⟨Wd,Wa⟩:=V8
        refine⟨X,_,Wd,_,p,Wa,w,I,by omega,λc f=>?_⟩
        rcases dm f with rfl|f
        .have:=n (B,m) (by simp)
         rw[bj,List.length_singleton]
         have:m.length<=a:=this
         omega
        .exact aQ (n c (by simp[f])) (by omega)
       generalize (y.toNat:Int)=Xq at *
       generalize (d::k.takeWhile bn)=W6 at *
       clear I l n r D VX VY VW Z V5 V4 Y M W C WG Wu Wm
       go_upto_region 32 with (first
        | (go_at_call 51;refine(U G _ (U F)).mono ?_;rintro W4 We ⟨rfl,J,L⟩;have q:=VV (U V3 We L ((ac (U T) (U F)).trans J));clear J L)
        | (go_at_call 41;refine(bI _ _).mono ?_;rintro WA S ⟨rfl,A⟩;have F:=VV A;clear A)
        | (go_at_call 52;refine(U WB _).mono ?_;rintro XN XO ⟨rfl,rfl⟩))
       go_wp2
       go_roundw
       case rel=>exact⟨b,by omega,by go_num,q⟩
       case measure=>simp[intOf]<;>omega
      | true=>
       rw[Wm] at WB
       have WL:Hid (∀j c,j<b+1-a->(d::k)[j]?=some c->bn c=true):=λj c V0 f=>by
        rcases Nat.lt_or_eq_of_le (show j<=b-a by omega) with h|rfl
        .exact U D j c h f
        .rw[M] at f;injection f with f;subst f;exact Wm
       generalize (y.toNat:Int)=Xq at *
       clear M W D C WG Wu Wm
       go_wp2_with (go_at_call 52;refine(U WB _).mono ?_;rintro XN XO ⟨rfl,rfl⟩)
       go_roundw
       case rel=>exact⟨b+1,by omega,by omega,by go_num,(by first|rfl|trivial),WL⟩
       case measure=>simp[intOf]<;>omega
     ·(have W3:¬(b:Int)<(e.length:Int):=by omega);(obtain⟨Xf,WI,I⟩:=Wu λc f=>by rw[List.getElem?_eq_none (by omega)] at f;cases f);have l:=U VY;have n:=U VW;have r:=U Z;have G:=VV λ(i:World) (V:Bw wr i)=>iQ (l.aa V) (el (d::k.takeWhile bn),none,0) (λWn _=>(show Dt.all Wn none [] by rw[Dt.all];trivial)) (by have:=n (B,m) (by simp);have:m.length<=a:=this;omega) (by omega);simp only[Dt.ad,el,Dt.k,Dt.s,Dt.l,List.length_nil,aT] at G;(have V3:Hid (∀i,rf (g.heap.size+1) g.heap.size X (.slice (some ⟨P,0,none⟩) (p.length+1) VZ) (m++[(el (d::k.takeWhile bn),none,0)]) p i->Bw g i->rj g e t (g.heap.size+1) b i):=λi V8 w=>by obtain⟨Wd,Wa⟩:=V8;refine⟨X,_,Wd,_,p,Wa,w,I,by omega,λc f=>?_⟩;rcases dm f with rfl|f;(.have:=n (B,m) (by simp);rw[bj,List.length_singleton];have:m.length<=a:=this;omega);.exact aQ (n c (by simp[f])) (by omega));generalize (d::k.takeWhile bn)=W6 at *;clear I l n r D VX VY VW Z V5 V4 Y C WG Wu
      go_upto_region 32 with (first
       | (go_at_call 51;refine(U G _ (U F)).mono ?_;rintro W4 We ⟨rfl,J,L⟩;have q:=VV (U V3 We L ((ac (U T) (U F)).trans J));clear J L)
       | (go_at_call 41;refine(bI _ _).mono ?_;rintro WA S ⟨rfl,A⟩;have F:=VV A;clear A))
      go_wp2;go_roundw;(case rel=>exact⟨b,by omega,by go_num,q⟩);case measure=>simp[intOf]<;>omega
   ·(have q:Hid (t=none):=by show _=_;rw[o];exact km _ _ _ x Wg Wh Wf Wz);(have Xk:bn d=false:=by simpa using Wz);have V6:=VV λi=>h7 d i;rw[Xk] at V6;have Wp:¬(d.toNat:Int)=32:=λs=>x (.inl (UInt8.toNat_inj.1 (by rw[show (32:UInt8).toNat=32 from rfl];omega)));have Wt:¬(d.toNat:Int)=9:=λs=>x (.inr (.inl (UInt8.toNat_inj.1 (by rw[show (9:UInt8).toNat=9 from rfl];omega))));have Wo:¬(d.toNat:Int)=10:=λs=>x (.inr (.inr (UInt8.toNat_inj.1 (by rw[show (10:UInt8).toNat=10 from rfl];omega))));have Wr:¬(d.toNat:Int)=40:=λs=>Wg (UInt8.toNat_inj.1 (by rw[show (40:UInt8).toNat=40 from rfl];omega));have Ws:¬(d.toNat:Int)=41:=λs=>Wh (UInt8.toNat_inj.1 (by rw[show (41:UInt8).toNat=41 from rfl];omega));have Wq:¬(d.toNat:Int)=34:=λs=>Wf (UInt8.toNat_inj.1 (by rw[show (34:UInt8).toNat=34 from rfl];omega));(have WO:((d.toNat:Int) == 32)=false:=by simpa using Wp);(have WS:((d.toNat:Int) == 9)=false:=by simpa using Wt);(have WN:((d.toNat:Int) == 10)=false:=by simpa using Wo);(have WQ:((d.toNat:Int) == 40)=false:=by simpa using Wr);(have WR:((d.toNat:Int) == 41)=false:=by simpa using Ws);(have WP:((d.toNat:Int) == 34)=false:=by simpa using Wq);obtain⟨XS,Wb⟩:=al (d.toNat:Int);rw[<-Wb] at W1 V6 Wp Wt Wo Wr Ws Wq WO WS WN WQ WR WP;clear o l n r u z K v N Wb x Wg Wh Wf Xk Wz;go_wp2_with (go_at_call 52;refine(U V6 _).mono ?_;rintro WA S ⟨rfl,rfl⟩);go_ret2;rw[U q];exact⟨U T,none,0,0,rfl⟩
  .have XK:¬(a:Int)<(e.length:Int):=by omega
   rw[dG (by omega),hO] at o
   obtain⟨XT,X7,XW,Xb⟩:=l.out rfl
   have T:=VV u
   obtain⟨E,Q⟩:=al (p.length+1)
   rw[<-Q] at WX
   have XJ:(0:Int)<(E:Int):=by omega
   have X5:=cell_regrown WX
   have X6:=cell_regrown Xb
   cases p with
   | nil=>
    have Xg:E=1:=Q
    have q:Hid (t=some (m.map Prod.fst)):=o
    obtain⟨V7,O,R,V9⟩:=l.gd.node
    have Wi:wr.cell? ⟨P,0,none⟩=some B:=by rw[World.ownsRow.cellAt l.row 0 (by simp)];rfl
    have R:B=.slice V7 m.length (m.length+O):=R
    rw[Xb,R] at Wi
    injection Wi with Wi
    obtain⟨rfl,rfl,rfl⟩:=e6 Wi
    have Xr:=VV V9.now
    subst Xg
    clear o V9 l n r u Q R Wi
    go_upto_region 33 with fail
    refine wp_region_quiet_below (by kernel_rfl) (by kernel_rfl) ?_
    repeat (go_big_quiet_step (fail))
    refine wpQuiet_nil ?_
    intro S Wx
    have WD:Bw wr S:=by obtain⟨Xo,rfl⟩:=Wx;exact below_regrown _ _ _
    clear Wx
    go_wp2
    go_ret2
    rw[U q]
    refine⟨ac (U T) WD,_,O,?_,Dt.ab _ (U Xr) WD⟩
    rw[VP];rfl
   | cons Xp p=>
    have q:Hid (t=none):=o
    have XF:¬(E:Int)=1:=by rw[Q,a1];omega
    have Xg:((E:Int) == 1)=false:=by simpa using XF
    clear o l n r u Q
    go_upto_region 33 with fail
    refine wp_region_quiet_below (by kernel_rfl) (by kernel_rfl) ?_
    repeat (go_big_quiet_step (fail))
    refine wpQuiet_nil ?_
    intro S Wx
    have WD:Bw wr S:=by obtain⟨Xo,rfl⟩:=Wx;exact below_regrown _ _ _
    clear Wx
    go_wp2
    go_ret2
    rw[U q]
    exact⟨ac (U T) WD,_,_,_,rfl⟩
end Go.Proofs.YtabmgpillccfaaaGreatDoor

import Derived.Test.YtekgpapophibcaaGreatStbD
set_option linter.unusedSimpArgs false
set_option linter.unusedVariables false
set_option maxHeartbeats 16000000
set_option maxRecDepth 100000
namespace Go.Proofs.YtekgpapophibcaaGreat
open Go.RowKit Go.Sort
theorem zSx{L L1 L2 L3:List Val}{a b mid:Nat}(h1:a<=mid)(h2:mid<=b)(p1:PAB a b L L1)(hx:∀i j,a<=i->i<mid->mid<=j->j<b->zAh (atL L1 i) (atL L1 j)<=0)(p2:PAB a mid L1 L2)(s2:SAB a mid L2)(p3:PAB mid b L2 L3)(s3:SAB mid b L3):PAB a b L L3/\SAB a b L3:=
 ⟨(p1.trans (p2.widen (Nat.le_refl _) h2)).trans (p3.widen h1 (Nat.le_refl _)),(s2.out p3 (.inl (Nat.le_refl _))).join s3 (zHv (zHv hx (.inl p2)) (.inr p3))⟩
theorem SAB.left{a s m:Nat}{L:List Val}(h1:SAB a s L)(h2:SAB s m L)(h3:a<=s)(h4:s<=m)(hn:¬(a<s/\s<m)):SAB a m L:=by
 by_cases e:a=s
 ·rw[e];exact h2
 ·have:s=m:=by omega
  rw[<-this];exact h1
theorem zQn(T:zAQ)(W:World)(L:List Val)(a m b:Nat)(hT:T.OK W)(hO:zAV W T.base T.v L)(ham:a+1<m)(DO:m+1<b)(hb:b<=T.N)(JB:SAB a m L)(Ja:SAB m b L)
  (ih:∀(W:World) (L:List Val) (a' m' b':Nat),b'-a'<b-a->T.OK W->zAV W T.base T.v L->a'<m'->m'<b'->b'<=T.N->SAB a' m' L->SAB m' b' L->Calls Tryz.prog 139 #[.agg #[T.less,T.swap],.int .i64 a',.int .i64 m',.int .i64 b'] W fun e w'=>e=.returned (.tuple #[])/\∃L',zAV w' T.base T.v L'/\zAt W w' T.v T.v/\PAB a' b' L L'/\SAB a' b' L') :
  Calls Tryz.prog 139 #[.agg #[T.less,T.swap],.int .i64 a,.int .i64 m,.int .i64 b] W fun e w'=>e=.returned (.tuple #[])/\∃L',zAV w' T.base T.v L'/\zAt W w' T.v T.v/\PAB a b L L'/\SAB a b L':=by
 have H0:=zA3 (zAQ.start hT hO)
 have Ti:=hT.small
 have e1:((m:Int)-(a:Int) == 1)=false:=by simp;omega
 have e2:((b:Int)-(m:Int) == 1)=false:=by simp;omega
 obtain⟨mid,Fz⟩:∃mid,mid=(a+b) / 2:=⟨_,rfl⟩
 have em:((a:Int)+(b:Int)) / 2=(mid:Int):=by omega
 have hab2:(a:Int)+(b:Int)<=2097152:=by omega
 have TL:a<mid/\mid<b:=by omega
 have JF:=zA3 JB
 have Tu:=zA3 Ja
 have IH:=zA3 ih
 have Dt:=zA3 Fz
 have hmN:(mid:Int)<=1048576:=by omega
 have TAIL:Hid (∀(wr:World) (s0 r0 s e:Nat),s0<=s->s<=r0->e+s=mid+m->((mid<m/\s0+b=mid+m/\r0=mid)∨(m<=mid/\s0=a/\r0=m))->(s=s0∨zAh (atL L (s-1)) (atL L e)<=0)->(s=r0∨zAh (atL L (e-1)) (atL L s)<0)->T.At W.heap.size (W.alloc (.cells #[T.less,T.swap] 164)) wr L->(a<=s/\s<=m/\s<=mid/\m<=e/\mid<=e/\e<=b)/\(s<m->m<e->Hid (Calls Tryz.prog 157 #[.agg #[T.less,T.swap],.int .i64 s,.int .i64 m,.int .i64 e] wr fun e_1 w'=>e_1=.returned (.tuple #[])/\∃L1,Hid (T.At W.heap.size (W.alloc (.cells #[T.less,T.swap] 164)) w' L1)/\Hid (PAB a b L L1/\∀q,atL L1 q=zG4 (atL L) s m e q)))/\(¬(s<m/\m<e)->Hid (PAB a b L L/\∀q,atL L q=zG4 (atL L) s m e q))/\Hid (∀w2 L1,Hid (T.At W.heap.size (W.alloc (.cells #[T.less,T.swap] 164)) w2 L1)->Hid (PAB a b L L1/\∀q,atL L1 q=zG4 (atL L) s m e q)->a<s->s<mid->Calls Tryz.prog 139 #[.agg #[T.less,T.swap],.int .i64 a,.int .i64 s,.int .i64 mid] w2 fun e_1 w'=>e_1=.returned (.tuple #[])/\∃L2,Hid (T.At W.heap.size (W.alloc (.cells #[T.less,T.swap] 164)) w' L2)/\Hid (PAB a mid L1 L2/\SAB a mid L2))/\Hid (∀L1,Hid (PAB a b L L1/\∀q,atL L1 q=zG4 (atL L) s m e q)->¬(a<s/\s<mid)->Hid (PAB a mid L1 L1/\SAB a mid L1))/\Hid (∀w2 L1 L2,Hid (T.At W.heap.size (W.alloc (.cells #[T.less,T.swap] 164)) w2 L2)->Hid (PAB a b L L1/\∀q,atL L1 q=zG4 (atL L) s m e q)->Hid (PAB a mid L1 L2/\SAB a mid L2)->mid<e->e<b->Calls Tryz.prog 139 #[.agg #[T.less,T.swap],.int .i64 mid,.int .i64 e,.int .i64 b] w2 fun e_1 w'=>e_1=.returned (.tuple #[])/\∃L3,Hid (T.At W.heap.size (W.alloc (.cells #[T.less,T.swap] 164)) w' L3)/\Hid (PAB mid b L2 L3/\SAB mid b L3))/\Hid (∀L1 L2,Hid (PAB a b L L1/\∀q,atL L1 q=zG4 (atL L) s m e q)->Hid (PAB a mid L1 L2/\SAB a mid L2)->¬(mid<e/\e<b)->Hid (PAB mid b L2 L2/\SAB mid b L2))/\Hid (∀L1 L2 L3,Hid (PAB a b L L1/\∀q,atL L1 q=zG4 (atL L) s m e q)->Hid (PAB a mid L1 L2/\SAB a mid L2)->Hid (PAB mid b L2 L3/\SAB mid b L3)->PAB a b L L3/\SAB a b L3)):=by
  intro wr s0 r0 s e h1 h2 he hc Tj FK hA
  have Yr:a<=s/\s<=m/\s<=mid/\m<=e/\mid<=e/\e<=b:=by omega
  have CR:=fun L1 (hL:∀q,atL L1 q=zG4 (atL L) s m e q)=>zOB (L':=L1) Fz (by omega:a<m) (by omega:m<b) he h1 h2 hc JB Ja Tj FK hL
  refine⟨Yr,fun q1 q2=>?_,fun hn=>⟨PAB.refl _ _ _,zR5 Yr.2.1 Yr.2.2.2.1 hn⟩,fun w2 L1 qK JC q1 q2=>?_,fun L1 JC hn=>⟨PAB.refl _ _ _,((CR L1 JC.2).1.1).left (CR L1 JC.2).1.2 Yr.1 Yr.2.2.1 hn⟩,fun w2 L1 L2 Kl JC yj q1 q2=>?_,fun L1 L2 JC yj hn=>⟨PAB.refl _ _ _,?_⟩,fun L1 L2 L3 JC yj hL3=>?_⟩
  ·exact(zMi T wr L s m e hA.ok hA.own q1 q2 (by omega)).mono fun e_1 w' ⟨he1,L1,o1,o2,o3,o4⟩=>⟨he1,L1,hA.grow o1 o2,o3.widen (by omega) (by omega),o4⟩
  ·exact(ih w2 L1 a s mid (by omega) (zA0 qK).ok (zA0 qK).own q1 q2 (by omega) (CR L1 JC.2).1.1 (CR L1 JC.2).1.2).mono fun e_1 w' ⟨he1,L2,o1,o2,o3,o4⟩=>⟨he1,L2,(zA0 qK).grow o1 o2,o3,o4⟩
  ·exact(ih w2 L2 mid e b (by omega) (zA0 Kl).ok (zA0 Kl).own q1 q2 hb ((CR L1 JC.2).2.1.1.out yj.1 (.inr (Nat.le_refl _))) ((CR L1 JC.2).2.1.2.out yj.1 (.inr (by omega)))).mono fun e_1 w' ⟨he1,L3,o1,o2,o3,o4⟩=>⟨he1,L3,(zA0 Kl).grow o1 o2,o3,o4⟩
  ·exact((CR L1 JC.2).2.1.1.out yj.1 (.inr (Nat.le_refl _))).left ((CR L1 JC.2).2.1.2.out yj.1 (.inr (by omega))) Yr.2.2.2.2.1 Yr.2.2.2.2.2 hn
  ·exact zSx (by omega) (by omega) JC.1 (CR L1 JC.2).2.2 yj.1 yj.2 hL3.1 hL3.2
 clear hT hO JB Ja ih Fz
 have Zk:(mid<m)∨(m<=mid):=by omega
 rcases Zk with ye|ye
 ·have i0:(mid:Int)<(m:Int):=by omega
  obtain⟨s0,hs0⟩:∃s0:Nat,s0+b=mid+m:=⟨mid+m-b,by have:=zA0 Dt;omega⟩
  have es0:(mid:Int)+(m:Int)-(b:Int)=(s0:Int):=by omega
  have hs0a:a<=s0/\s0<=mid:=by have:=zA0 Dt;omega
  have HC:Hid (s0+b=mid+m):=hs0
  go_enter Tryz.func139,Tryz.ntmps139
  go_wp2_with fail
  go_loopw[18,19] (fun s18 s19 wr=>∃(s r:Nat),s18=.int .i64 (s:Int)/\s19=.int .i64 (r:Int)/\s0<=s/\s<=r/\r<=mid/\Hid (T.At W.heap.size (W.alloc (.cells #[T.less,T.swap] 164)) wr L)/\Hid (s=s0∨zAh (atL L (s-1)) (atL L (mid+m-s))<=0)/\Hid (r=mid∨zAh (atL L (mid+m-r-1)) (atL L r)<0)) (fun s18 s19 _=>(intOf s19-intOf s18).toNat)
  case atStart=>exact⟨s0,mid,by first|rfl|go_num,by first|rfl|go_num,Nat.le_refl _,by omega,Nat.le_refl _,H0,.inl rfl,.inl rfl⟩
  case round=>
   obtain⟨s,r,rfl,rfl,GN,hsr,Hq,HA,YB,ZM⟩:=hrel
   have c0:=(zA0 HA).c0
   have c1:=(zA0 HA).c1
   by_cases h1:s<r
   ·have i1:(s:Int)<(r:Int):=by omega
    obtain⟨c,hc⟩:∃c,c=(s+r) / 2:=⟨_,rfl⟩
    have eh:((s:Int)+(r:Int)) / 2=(c:Int):=by omega
    have i3:(s:Int)+(r:Int)<=2097152:=by omega
    have Fa:s<=c/\c<r:=by omega
    have Jo:=zA3 Fa
    have ep:(mid:Int)+(m:Int)-1-(c:Int)=((mid+m-1-c:Nat):Int):=by omega
    have HL:=zA3 (zFL T wr L (mid+m-1-c) c (zA0 HA).ok (zA0 HA).own (by have:=zA0 Dt;omega) (by omega))
    have JV:(c:Int)<=1048576:=by omega
    have hpc:((mid+m-1-c:Nat):Int)<=2097152:=by omega
    unfold zAQ.less at c0
    clear hc Fa c1
    cases He:ltV (atL L (mid+m-1-c)) (atL L c)
    ·rw[He] at HL
     have HX:Hid (zAh (atL L (c+1-1)) (atL L (mid+m-(c+1)))<=0):=by
      have h3:=zN6 He
      have h4:=zBA (atL L (mid+m-1-c)) (atL L c)
      show _<=_
      rw[show c+1-1=c by omega,show mid+m-(c+1)=mid+m-1-c by omega]
      omega
     clear He
     go_wp2_with (go_at_call 90;refine(zA0 HL).mono ?_;rintro e w2 ⟨rfl,Hh⟩;replace Hh:=zA3 Hh)
     go_roundw
     case rel=>exact⟨c+1,r,by go_num,rfl,by have:=zA0 Jo;omega,by have:=zA0 Jo;omega,Hq,(zA0 HA).below (zA0 Hh),.inr (zA0 HX),ZM⟩
     case measure=>have:=zA0 Jo;first | (simp[intOf];omega) | (simp only[intOf];omega)
    ·rw[He] at HL
     have HX:Hid (zAh (atL L (mid+m-c-1)) (atL L c)<0):=by
      show _<_
      rw[show mid+m-c-1=mid+m-1-c by omega]
      exact zN5 He
     clear He
     go_wp2_with (go_at_call 90;refine(zA0 HL).mono ?_;rintro e w2 ⟨rfl,Hh⟩;replace Hh:=zA3 Hh)
     go_roundw
     case rel=>exact⟨s,c,rfl,by go_num,GN,(zA0 Jo).1,by have:=zA0 Jo;omega,(zA0 HA).below (zA0 Hh),YB,.inr (zA0 HX)⟩
     case measure=>have:=zA0 Jo;first | (simp[intOf];omega) | (simp only[intOf];omega)
   ·have i1:¬(s:Int)<(r:Int):=by omega
    have yD:s=r:=by omega
    obtain⟨e,he⟩:∃e,e+s=mid+m:=⟨mid+m-s,by omega⟩
    have FQ:mid+m-s=e:=by omega
    have TT:=zA0 TAIL wr s0 mid s e GN (by omega) he (.inl ⟨ye,zA0 HC,rfl⟩) (by have h:=zA0 YB;rw[FQ] at h;exact h) (by have h:=zA0 ZM;rw[<-yD,FQ] at h;exact h) (zA0 HA)
    obtain⟨Yr,T1,T2,T3,T4,T5,T6,T7⟩:=TT
    have T1:=zA3 T1
    have T2:=zA3 T2
    have ee:(mid:Int)+(m:Int)-(s:Int)=(e:Int):=by omega
    obtain⟨b1,b2,b3,b4,b5,b6⟩:=Yr
    have HE:=zA3 he
    clear YB ZM hsr yD he FQ Hq GN
    have yH:(s<m/\mid<e)∨(¬s<m/\¬mid<e):=by have:=zA0 HE;omega
    have qu:(m<e/\s<mid)∨(¬m<e/\¬s<mid):=by have:=zA0 HE;omega
    rcases yH with ⟨x1,x2⟩|⟨x1,x2⟩
    ·rcases qu with ⟨y1,y2⟩|⟨y1,y2⟩
     ·by_cases z3:a<s
      ·by_cases z4:e<b
       ·have j1:(s:Int)<(m:Int):=by omega
        have j2:(mid:Int)<(e:Int):=by omega
        have j3:(m:Int)<(e:Int):=by omega
        have j4:(s:Int)<(mid:Int):=by omega
        have j5:(a:Int)<(s:Int):=by omega
        have j6:(e:Int)<(b:Int):=by omega
        have YQ:=zA0 T1 x1 y1
        go_wp2_with (first | (go_at_call 157;refine(zA0 YQ).mono ?_;rintro e_1 w2 ⟨rfl,L1,QH,Hi⟩;have cr0:=(zA0 QH).c0;have cr1:=(zA0 QH).c1) | (go_at_call_of 139 (Value.int IntKind.i64 (a:Int));refine(zA0 T3 _ _ QH Hi (by omega) (by omega)).mono ?_;rintro e_1 w3 ⟨rfl,L2,Qy,Qu⟩;have cl0:=(zA0 Qy).c0;have cl1:=(zA0 Qy).c1) | (go_at_call_of 139 (Value.int IntKind.i64 (b:Int));refine(zA0 T5 _ _ _ Qy Hi Qu (by omega) (by omega)).mono ?_;rintro e_1 w4 ⟨rfl,L3,ZO,JJ⟩))
        go_end0
        have FIN:=zA0 T7 _ _ _ Hi Qu JJ
        exact⟨rfl,_,(zA0 ZO).own,(zA0 ZO).back,FIN.1,FIN.2⟩
       ·have j1:(s:Int)<(m:Int):=by omega
        have j2:(mid:Int)<(e:Int):=by omega
        have j3:(m:Int)<(e:Int):=by omega
        have j4:(s:Int)<(mid:Int):=by omega
        have j5:(a:Int)<(s:Int):=by omega
        have j6:¬(e:Int)<(b:Int):=by omega
        have YQ:=zA0 T1 x1 y1
        go_wp2_with (first | (go_at_call 157;refine(zA0 YQ).mono ?_;rintro e_1 w2 ⟨rfl,L1,QH,Hi⟩;have cr0:=(zA0 QH).c0;have cr1:=(zA0 QH).c1) | (go_at_call_of 139 (Value.int IntKind.i64 (a:Int));refine(zA0 T3 _ _ QH Hi (by omega) (by omega)).mono ?_;rintro e_1 w3 ⟨rfl,L2,Qy,Qu⟩;have cl0:=(zA0 Qy).c0;have cl1:=(zA0 Qy).c1))
        go_end0
        have FIN:=zA0 T7 _ _ _ Hi Qu (zA0 T6 _ _ Hi Qu (by omega))
        exact⟨rfl,_,(zA0 Qy).own,(zA0 Qy).back,FIN.1,FIN.2⟩
      ·by_cases z4:e<b
       ·have j1:(s:Int)<(m:Int):=by omega
        have j2:(mid:Int)<(e:Int):=by omega
        have j3:(m:Int)<(e:Int):=by omega
        have j4:(s:Int)<(mid:Int):=by omega
        have j5:¬(a:Int)<(s:Int):=by omega
        have j6:(e:Int)<(b:Int):=by omega
        have YQ:=zA0 T1 x1 y1
        go_wp2_with (first | (go_at_call 157;refine(zA0 YQ).mono ?_;rintro e_1 w2 ⟨rfl,L1,QH,Hi⟩;have cr0:=(zA0 QH).c0;have cr1:=(zA0 QH).c1) | (go_at_call_of 139 (Value.int IntKind.i64 (b:Int));refine(zA0 T5 _ _ _ QH Hi (zA0 T4 _ Hi (by omega)) (by omega) (by omega)).mono ?_;rintro e_1 w4 ⟨rfl,L3,ZO,JJ⟩))
        go_end0
        have FIN:=zA0 T7 _ _ _ Hi (zA0 T4 _ Hi (by omega)) JJ
        exact⟨rfl,_,(zA0 ZO).own,(zA0 ZO).back,FIN.1,FIN.2⟩
       ·have j1:(s:Int)<(m:Int):=by omega
        have j2:(mid:Int)<(e:Int):=by omega
        have j3:(m:Int)<(e:Int):=by omega
        have j4:(s:Int)<(mid:Int):=by omega
        have j5:¬(a:Int)<(s:Int):=by omega
        have j6:¬(e:Int)<(b:Int):=by omega
        have YQ:=zA0 T1 x1 y1
        go_wp2_with (first | (go_at_call 157;refine(zA0 YQ).mono ?_;rintro e_1 w2 ⟨rfl,L1,QH,Hi⟩;have cr0:=(zA0 QH).c0;have cr1:=(zA0 QH).c1))
        go_end0
        have FIN:=zA0 T7 _ _ _ Hi (zA0 T4 _ Hi (by omega)) (zA0 T6 _ _ Hi (zA0 T4 _ Hi (by omega)) (by omega))
        exact⟨rfl,_,(zA0 QH).own,(zA0 QH).back,FIN.1,FIN.2⟩
     ·by_cases z3:a<s
      ·by_cases z4:e<b
       ·have j1:(s:Int)<(m:Int):=by omega
        have j2:(mid:Int)<(e:Int):=by omega
        have j3:¬(m:Int)<(e:Int):=by omega
        have j4:¬(s:Int)<(mid:Int):=by omega
        have j5:(a:Int)<(s:Int):=by omega
        have j6:(e:Int)<(b:Int):=by omega
        have Hi:=zA0 T2 (by omega)
        go_wp2_with (first | (go_at_call_of 139 (Value.int IntKind.i64 (b:Int));refine(zA0 T5 _ _ _ HA Hi (zA0 T4 _ Hi (by omega)) (by omega) (by omega)).mono ?_;rintro e_1 w4 ⟨rfl,L3,ZO,JJ⟩))
        go_end0
        have FIN:=zA0 T7 _ _ _ Hi (zA0 T4 _ Hi (by omega)) JJ
        exact⟨rfl,_,(zA0 ZO).own,(zA0 ZO).back,FIN.1,FIN.2⟩
       ·have j1:(s:Int)<(m:Int):=by omega
        have j2:(mid:Int)<(e:Int):=by omega
        have j3:¬(m:Int)<(e:Int):=by omega
        have j4:¬(s:Int)<(mid:Int):=by omega
        have j5:(a:Int)<(s:Int):=by omega
        have j6:¬(e:Int)<(b:Int):=by omega
        have Hi:=zA0 T2 (by omega)
        go_wp2
        go_end0
        have FIN:=zA0 T7 _ _ _ Hi (zA0 T4 _ Hi (by omega)) (zA0 T6 _ _ Hi (zA0 T4 _ Hi (by omega)) (by omega))
        exact⟨rfl,_,(zA0 HA).own,(zA0 HA).back,FIN.1,FIN.2⟩
      ·by_cases z4:e<b
       ·have j1:(s:Int)<(m:Int):=by omega
        have j2:(mid:Int)<(e:Int):=by omega
        have j3:¬(m:Int)<(e:Int):=by omega
        have j4:¬(s:Int)<(mid:Int):=by omega
        have j5:¬(a:Int)<(s:Int):=by omega
        have j6:(e:Int)<(b:Int):=by omega
        have Hi:=zA0 T2 (by omega)
        go_wp2_with (first | (go_at_call_of 139 (Value.int IntKind.i64 (b:Int));refine(zA0 T5 _ _ _ HA Hi (zA0 T4 _ Hi (by omega)) (by omega) (by omega)).mono ?_;rintro e_1 w4 ⟨rfl,L3,ZO,JJ⟩))
        go_end0
        have FIN:=zA0 T7 _ _ _ Hi (zA0 T4 _ Hi (by omega)) JJ
        exact⟨rfl,_,(zA0 ZO).own,(zA0 ZO).back,FIN.1,FIN.2⟩
       ·have j1:(s:Int)<(m:Int):=by omega
        have j2:(mid:Int)<(e:Int):=by omega
        have j3:¬(m:Int)<(e:Int):=by omega
        have j4:¬(s:Int)<(mid:Int):=by omega
        have j5:¬(a:Int)<(s:Int):=by omega
        have j6:¬(e:Int)<(b:Int):=by omega
        have Hi:=zA0 T2 (by omega)
        go_wp2
        go_end0
        have FIN:=zA0 T7 _ _ _ Hi (zA0 T4 _ Hi (by omega)) (zA0 T6 _ _ Hi (zA0 T4 _ Hi (by omega)) (by omega))
        exact⟨rfl,_,(zA0 HA).own,(zA0 HA).back,FIN.1,FIN.2⟩
    ·rcases qu with ⟨y1,y2⟩|⟨y1,y2⟩
     ·by_cases z3:a<s
      ·by_cases z4:e<b
       ·have j1:¬(s:Int)<(m:Int):=by omega
        have j2:¬(mid:Int)<(e:Int):=by omega
        have j3:(m:Int)<(e:Int):=by omega
        have j4:(s:Int)<(mid:Int):=by omega
        have j5:(a:Int)<(s:Int):=by omega
        have j6:(e:Int)<(b:Int):=by omega
        have Hi:=zA0 T2 (by omega)
        go_wp2_with (first | (go_at_call_of 139 (Value.int IntKind.i64 (a:Int));refine(zA0 T3 _ _ HA Hi (by omega) (by omega)).mono ?_;rintro e_1 w3 ⟨rfl,L2,Qy,Qu⟩;have cl0:=(zA0 Qy).c0;have cl1:=(zA0 Qy).c1))
        go_end0
        have FIN:=zA0 T7 _ _ _ Hi Qu (zA0 T6 _ _ Hi Qu (by omega))
        exact⟨rfl,_,(zA0 Qy).own,(zA0 Qy).back,FIN.1,FIN.2⟩
       ·have j1:¬(s:Int)<(m:Int):=by omega
        have j2:¬(mid:Int)<(e:Int):=by omega
        have j3:(m:Int)<(e:Int):=by omega
        have j4:(s:Int)<(mid:Int):=by omega
        have j5:(a:Int)<(s:Int):=by omega
        have j6:¬(e:Int)<(b:Int):=by omega
        have Hi:=zA0 T2 (by omega)
        go_wp2_with (first | (go_at_call_of 139 (Value.int IntKind.i64 (a:Int));refine(zA0 T3 _ _ HA Hi (by omega) (by omega)).mono ?_;rintro e_1 w3 ⟨rfl,L2,Qy,Qu⟩;have cl0:=(zA0 Qy).c0;have cl1:=(zA0 Qy).c1))
        go_end0
        have FIN:=zA0 T7 _ _ _ Hi Qu (zA0 T6 _ _ Hi Qu (by omega))
        exact⟨rfl,_,(zA0 Qy).own,(zA0 Qy).back,FIN.1,FIN.2⟩
      ·by_cases z4:e<b
       ·have j1:¬(s:Int)<(m:Int):=by omega
        have j2:¬(mid:Int)<(e:Int):=by omega
        have j3:(m:Int)<(e:Int):=by omega
        have j4:(s:Int)<(mid:Int):=by omega
        have j5:¬(a:Int)<(s:Int):=by omega
        have j6:(e:Int)<(b:Int):=by omega
        have Hi:=zA0 T2 (by omega)
        go_wp2
        go_end0
        have FIN:=zA0 T7 _ _ _ Hi (zA0 T4 _ Hi (by omega)) (zA0 T6 _ _ Hi (zA0 T4 _ Hi (by omega)) (by omega))
        exact⟨rfl,_,(zA0 HA).own,(zA0 HA).back,FIN.1,FIN.2⟩
       ·have j1:¬(s:Int)<(m:Int):=by omega
        have j2:¬(mid:Int)<(e:Int):=by omega
        have j3:(m:Int)<(e:Int):=by omega
        have j4:(s:Int)<(mid:Int):=by omega
        have j5:¬(a:Int)<(s:Int):=by omega
        have j6:¬(e:Int)<(b:Int):=by omega
        have Hi:=zA0 T2 (by omega)
        go_wp2
        go_end0
        have FIN:=zA0 T7 _ _ _ Hi (zA0 T4 _ Hi (by omega)) (zA0 T6 _ _ Hi (zA0 T4 _ Hi (by omega)) (by omega))
        exact⟨rfl,_,(zA0 HA).own,(zA0 HA).back,FIN.1,FIN.2⟩
     ·by_cases z3:a<s
      ·by_cases z4:e<b
       ·have j1:¬(s:Int)<(m:Int):=by omega
        have j2:¬(mid:Int)<(e:Int):=by omega
        have j3:¬(m:Int)<(e:Int):=by omega
        have j4:¬(s:Int)<(mid:Int):=by omega
        have j5:(a:Int)<(s:Int):=by omega
        have j6:(e:Int)<(b:Int):=by omega
        have Hi:=zA0 T2 (by omega)
        go_wp2
        go_end0
        have FIN:=zA0 T7 _ _ _ Hi (zA0 T4 _ Hi (by omega)) (zA0 T6 _ _ Hi (zA0 T4 _ Hi (by omega)) (by omega))
        exact⟨rfl,_,(zA0 HA).own,(zA0 HA).back,FIN.1,FIN.2⟩
       ·have j1:¬(s:Int)<(m:Int):=by omega
        have j2:¬(mid:Int)<(e:Int):=by omega
        have j3:¬(m:Int)<(e:Int):=by omega
        have j4:¬(s:Int)<(mid:Int):=by omega
        have j5:(a:Int)<(s:Int):=by omega
        have j6:¬(e:Int)<(b:Int):=by omega
        have Hi:=zA0 T2 (by omega)
        go_wp2
        go_end0
        have FIN:=zA0 T7 _ _ _ Hi (zA0 T4 _ Hi (by omega)) (zA0 T6 _ _ Hi (zA0 T4 _ Hi (by omega)) (by omega))
        exact⟨rfl,_,(zA0 HA).own,(zA0 HA).back,FIN.1,FIN.2⟩
      ·by_cases z4:e<b
       ·have j1:¬(s:Int)<(m:Int):=by omega
        have j2:¬(mid:Int)<(e:Int):=by omega
        have j3:¬(m:Int)<(e:Int):=by omega
        have j4:¬(s:Int)<(mid:Int):=by omega
        have j5:¬(a:Int)<(s:Int):=by omega
        have j6:(e:Int)<(b:Int):=by omega
        have Hi:=zA0 T2 (by omega)
        go_wp2
        go_end0
        have FIN:=zA0 T7 _ _ _ Hi (zA0 T4 _ Hi (by omega)) (zA0 T6 _ _ Hi (zA0 T4 _ Hi (by omega)) (by omega))
        exact⟨rfl,_,(zA0 HA).own,(zA0 HA).back,FIN.1,FIN.2⟩
       ·have j1:¬(s:Int)<(m:Int):=by omega
        have j2:¬(mid:Int)<(e:Int):=by omega
        have j3:¬(m:Int)<(e:Int):=by omega
        have j4:¬(s:Int)<(mid:Int):=by omega
        have j5:¬(a:Int)<(s:Int):=by omega
        have j6:¬(e:Int)<(b:Int):=by omega
        have Hi:=zA0 T2 (by omega)
        go_wp2
        go_end0
        have FIN:=zA0 T7 _ _ _ Hi (zA0 T4 _ Hi (by omega)) (zA0 T6 _ _ Hi (zA0 T4 _ Hi (by omega)) (by omega))
        exact⟨rfl,_,(zA0 HA).own,(zA0 HA).back,FIN.1,FIN.2⟩
 ·have i0:¬(mid:Int)<(m:Int):=by omega
  go_enter Tryz.func139,Tryz.ntmps139
  go_wp2_with fail
  go_loopw[18,19] (fun s18 s19 wr=>∃(s r:Nat),s18=.int .i64 (s:Int)/\s19=.int .i64 (r:Int)/\a<=s/\s<=r/\r<=m/\Hid (T.At W.heap.size (W.alloc (.cells #[T.less,T.swap] 164)) wr L)/\Hid (s=a∨zAh (atL L (s-1)) (atL L (mid+m-s))<=0)/\Hid (r=m∨zAh (atL L (mid+m-r-1)) (atL L r)<0)) (fun s18 s19 _=>(intOf s19-intOf s18).toNat)
  case atStart=>exact⟨a,m,by first|rfl|go_num,by first|rfl|go_num,Nat.le_refl _,by omega,Nat.le_refl _,H0,.inl rfl,.inl rfl⟩
  case round=>
   obtain⟨s,r,rfl,rfl,GN,hsr,Hq,HA,YB,ZM⟩:=hrel
   have c0:=(zA0 HA).c0
   have c1:=(zA0 HA).c1
   by_cases h1:s<r
   ·have i1:(s:Int)<(r:Int):=by omega
    obtain⟨c,hc⟩:∃c,c=(s+r) / 2:=⟨_,rfl⟩
    have eh:((s:Int)+(r:Int)) / 2=(c:Int):=by omega
    have i3:(s:Int)+(r:Int)<=2097152:=by omega
    have Fa:s<=c/\c<r:=by omega
    have Jo:=zA3 Fa
    have ep:(mid:Int)+(m:Int)-1-(c:Int)=((mid+m-1-c:Nat):Int):=by omega
    have HL:=zA3 (zFL T wr L (mid+m-1-c) c (zA0 HA).ok (zA0 HA).own (by have:=zA0 Dt;omega) (by omega))
    have JV:(c:Int)<=1048576:=by omega
    have hpc:((mid+m-1-c:Nat):Int)<=2097152:=by omega
    unfold zAQ.less at c0
    clear hc Fa c1
    cases He:ltV (atL L (mid+m-1-c)) (atL L c)
    ·rw[He] at HL
     have HX:Hid (zAh (atL L (c+1-1)) (atL L (mid+m-(c+1)))<=0):=by
      have h3:=zN6 He
      have h4:=zBA (atL L (mid+m-1-c)) (atL L c)
      show _<=_
      rw[show c+1-1=c by omega,show mid+m-(c+1)=mid+m-1-c by omega]
      omega
     clear He
     go_wp2_with (go_at_call 90;refine(zA0 HL).mono ?_;rintro e w2 ⟨rfl,Hh⟩;replace Hh:=zA3 Hh)
     go_roundw
     case rel=>exact⟨c+1,r,by go_num,rfl,by have:=zA0 Jo;omega,by have:=zA0 Jo;omega,Hq,(zA0 HA).below (zA0 Hh),.inr (zA0 HX),ZM⟩
     case measure=>have:=zA0 Jo;first | (simp[intOf];omega) | (simp only[intOf];omega)
    ·rw[He] at HL
     have HX:Hid (zAh (atL L (mid+m-c-1)) (atL L c)<0):=by
      show _<_
      rw[show mid+m-c-1=mid+m-1-c by omega]
      exact zN5 He
     clear He
     go_wp2_with (go_at_call 90;refine(zA0 HL).mono ?_;rintro e w2 ⟨rfl,Hh⟩;replace Hh:=zA3 Hh)
     go_roundw
     case rel=>exact⟨s,c,rfl,by go_num,GN,(zA0 Jo).1,by have:=zA0 Jo;omega,(zA0 HA).below (zA0 Hh),YB,.inr (zA0 HX)⟩
     case measure=>have:=zA0 Jo;first | (simp[intOf];omega) | (simp only[intOf];omega)
   ·have i1:¬(s:Int)<(r:Int):=by omega
    have yD:s=r:=by omega
    obtain⟨e,he⟩:∃e,e+s=mid+m:=⟨mid+m-s,by omega⟩
    have FQ:mid+m-s=e:=by omega
    have TT:=zA0 TAIL wr a m s e GN (by omega) he (.inr ⟨ye,rfl,rfl⟩) (by have h:=zA0 YB;rw[FQ] at h;exact h) (by have h:=zA0 ZM;rw[<-yD,FQ] at h;exact h) (zA0 HA)
    obtain⟨Yr,T1,T2,T3,T4,T5,T6,T7⟩:=TT
    have T1:=zA3 T1
    have T2:=zA3 T2
    have ee:(mid:Int)+(m:Int)-(s:Int)=(e:Int):=by omega
    obtain⟨b1,b2,b3,b4,b5,b6⟩:=Yr
    have HE:=zA3 he
    clear YB ZM hsr yD he FQ Hq GN
    have yH:(s<m/\mid<e)∨(¬s<m/\¬mid<e):=by have:=zA0 HE;omega
    have qu:(m<e/\s<mid)∨(¬m<e/\¬s<mid):=by have:=zA0 HE;omega
    rcases yH with ⟨x1,x2⟩|⟨x1,x2⟩
    ·rcases qu with ⟨y1,y2⟩|⟨y1,y2⟩
     ·by_cases z3:a<s
      ·by_cases z4:e<b
       ·have j1:(s:Int)<(m:Int):=by omega
        have j2:(mid:Int)<(e:Int):=by omega
        have j3:(m:Int)<(e:Int):=by omega
        have j4:(s:Int)<(mid:Int):=by omega
        have j5:(a:Int)<(s:Int):=by omega
        have j6:(e:Int)<(b:Int):=by omega
        have YQ:=zA0 T1 x1 y1
        go_wp2_with (first | (go_at_call 157;refine(zA0 YQ).mono ?_;rintro e_1 w2 ⟨rfl,L1,QH,Hi⟩;have cr0:=(zA0 QH).c0;have cr1:=(zA0 QH).c1) | (go_at_call_of 139 (Value.int IntKind.i64 (a:Int));refine(zA0 T3 _ _ QH Hi (by omega) (by omega)).mono ?_;rintro e_1 w3 ⟨rfl,L2,Qy,Qu⟩;have cl0:=(zA0 Qy).c0;have cl1:=(zA0 Qy).c1) | (go_at_call_of 139 (Value.int IntKind.i64 (b:Int));refine(zA0 T5 _ _ _ Qy Hi Qu (by omega) (by omega)).mono ?_;rintro e_1 w4 ⟨rfl,L3,ZO,JJ⟩))
        go_end0
        have FIN:=zA0 T7 _ _ _ Hi Qu JJ
        exact⟨rfl,_,(zA0 ZO).own,(zA0 ZO).back,FIN.1,FIN.2⟩
       ·have j1:(s:Int)<(m:Int):=by omega
        have j2:(mid:Int)<(e:Int):=by omega
        have j3:(m:Int)<(e:Int):=by omega
        have j4:(s:Int)<(mid:Int):=by omega
        have j5:(a:Int)<(s:Int):=by omega
        have j6:¬(e:Int)<(b:Int):=by omega
        have YQ:=zA0 T1 x1 y1
        go_wp2_with (first | (go_at_call 157;refine(zA0 YQ).mono ?_;rintro e_1 w2 ⟨rfl,L1,QH,Hi⟩;have cr0:=(zA0 QH).c0;have cr1:=(zA0 QH).c1) | (go_at_call_of 139 (Value.int IntKind.i64 (a:Int));refine(zA0 T3 _ _ QH Hi (by omega) (by omega)).mono ?_;rintro e_1 w3 ⟨rfl,L2,Qy,Qu⟩;have cl0:=(zA0 Qy).c0;have cl1:=(zA0 Qy).c1))
        go_end0
        have FIN:=zA0 T7 _ _ _ Hi Qu (zA0 T6 _ _ Hi Qu (by omega))
        exact⟨rfl,_,(zA0 Qy).own,(zA0 Qy).back,FIN.1,FIN.2⟩
      ·by_cases z4:e<b
       ·have j1:(s:Int)<(m:Int):=by omega
        have j2:(mid:Int)<(e:Int):=by omega
        have j3:(m:Int)<(e:Int):=by omega
        have j4:(s:Int)<(mid:Int):=by omega
        have j5:¬(a:Int)<(s:Int):=by omega
        have j6:(e:Int)<(b:Int):=by omega
        have YQ:=zA0 T1 x1 y1
        go_wp2_with (first | (go_at_call 157;refine(zA0 YQ).mono ?_;rintro e_1 w2 ⟨rfl,L1,QH,Hi⟩;have cr0:=(zA0 QH).c0;have cr1:=(zA0 QH).c1) | (go_at_call_of 139 (Value.int IntKind.i64 (b:Int));refine(zA0 T5 _ _ _ QH Hi (zA0 T4 _ Hi (by omega)) (by omega) (by omega)).mono ?_;rintro e_1 w4 ⟨rfl,L3,ZO,JJ⟩))
        go_end0
        have FIN:=zA0 T7 _ _ _ Hi (zA0 T4 _ Hi (by omega)) JJ
        exact⟨rfl,_,(zA0 ZO).own,(zA0 ZO).back,FIN.1,FIN.2⟩
       ·have j1:(s:Int)<(m:Int):=by omega
        have j2:(mid:Int)<(e:Int):=by omega
        have j3:(m:Int)<(e:Int):=by omega
        have j4:(s:Int)<(mid:Int):=by omega
        have j5:¬(a:Int)<(s:Int):=by omega
        have j6:¬(e:Int)<(b:Int):=by omega
        have YQ:=zA0 T1 x1 y1
        go_wp2_with (first | (go_at_call 157;refine(zA0 YQ).mono ?_;rintro e_1 w2 ⟨rfl,L1,QH,Hi⟩;have cr0:=(zA0 QH).c0;have cr1:=(zA0 QH).c1))
        go_end0
        have FIN:=zA0 T7 _ _ _ Hi (zA0 T4 _ Hi (by omega)) (zA0 T6 _ _ Hi (zA0 T4 _ Hi (by omega)) (by omega))
        exact⟨rfl,_,(zA0 QH).own,(zA0 QH).back,FIN.1,FIN.2⟩
     ·by_cases z3:a<s
      ·by_cases z4:e<b
       ·have j1:(s:Int)<(m:Int):=by omega
        have j2:(mid:Int)<(e:Int):=by omega
        have j3:¬(m:Int)<(e:Int):=by omega
        have j4:¬(s:Int)<(mid:Int):=by omega
        have j5:(a:Int)<(s:Int):=by omega
        have j6:(e:Int)<(b:Int):=by omega
        have Hi:=zA0 T2 (by omega)
        go_wp2_with (first | (go_at_call_of 139 (Value.int IntKind.i64 (b:Int));refine(zA0 T5 _ _ _ HA Hi (zA0 T4 _ Hi (by omega)) (by omega) (by omega)).mono ?_;rintro e_1 w4 ⟨rfl,L3,ZO,JJ⟩))
        go_end0
        have FIN:=zA0 T7 _ _ _ Hi (zA0 T4 _ Hi (by omega)) JJ
        exact⟨rfl,_,(zA0 ZO).own,(zA0 ZO).back,FIN.1,FIN.2⟩
       ·have j1:(s:Int)<(m:Int):=by omega
        have j2:(mid:Int)<(e:Int):=by omega
        have j3:¬(m:Int)<(e:Int):=by omega
        have j4:¬(s:Int)<(mid:Int):=by omega
        have j5:(a:Int)<(s:Int):=by omega
        have j6:¬(e:Int)<(b:Int):=by omega
        have Hi:=zA0 T2 (by omega)
        go_wp2
        go_end0
        have FIN:=zA0 T7 _ _ _ Hi (zA0 T4 _ Hi (by omega)) (zA0 T6 _ _ Hi (zA0 T4 _ Hi (by omega)) (by omega))
        exact⟨rfl,_,(zA0 HA).own,(zA0 HA).back,FIN.1,FIN.2⟩
      ·by_cases z4:e<b
       ·have j1:(s:Int)<(m:Int):=by omega
        have j2:(mid:Int)<(e:Int):=by omega
        have j3:¬(m:Int)<(e:Int):=by omega
        have j4:¬(s:Int)<(mid:Int):=by omega
        have j5:¬(a:Int)<(s:Int):=by omega
        have j6:(e:Int)<(b:Int):=by omega
        have Hi:=zA0 T2 (by omega)
        go_wp2_with (first | (go_at_call_of 139 (Value.int IntKind.i64 (b:Int));refine(zA0 T5 _ _ _ HA Hi (zA0 T4 _ Hi (by omega)) (by omega) (by omega)).mono ?_;rintro e_1 w4 ⟨rfl,L3,ZO,JJ⟩))
        go_end0
        have FIN:=zA0 T7 _ _ _ Hi (zA0 T4 _ Hi (by omega)) JJ
        exact⟨rfl,_,(zA0 ZO).own,(zA0 ZO).back,FIN.1,FIN.2⟩
       ·have j1:(s:Int)<(m:Int):=by omega
        have j2:(mid:Int)<(e:Int):=by omega
        have j3:¬(m:Int)<(e:Int):=by omega
        have j4:¬(s:Int)<(mid:Int):=by omega
        have j5:¬(a:Int)<(s:Int):=by omega
        have j6:¬(e:Int)<(b:Int):=by omega
        have Hi:=zA0 T2 (by omega)
        go_wp2
        go_end0
        have FIN:=zA0 T7 _ _ _ Hi (zA0 T4 _ Hi (by omega)) (zA0 T6 _ _ Hi (zA0 T4 _ Hi (by omega)) (by omega))
        exact⟨rfl,_,(zA0 HA).own,(zA0 HA).back,FIN.1,FIN.2⟩
    ·rcases qu with ⟨y1,y2⟩|⟨y1,y2⟩
     ·by_cases z3:a<s
      ·by_cases z4:e<b
       ·have j1:¬(s:Int)<(m:Int):=by omega
        have j2:¬(mid:Int)<(e:Int):=by omega
        have j3:(m:Int)<(e:Int):=by omega
        have j4:(s:Int)<(mid:Int):=by omega
        have j5:(a:Int)<(s:Int):=by omega
        have j6:(e:Int)<(b:Int):=by omega
        have Hi:=zA0 T2 (by omega)
        go_wp2_with (first | (go_at_call_of 139 (Value.int IntKind.i64 (a:Int));refine(zA0 T3 _ _ HA Hi (by omega) (by omega)).mono ?_;rintro e_1 w3 ⟨rfl,L2,Qy,Qu⟩;have cl0:=(zA0 Qy).c0;have cl1:=(zA0 Qy).c1))
        go_end0
        have FIN:=zA0 T7 _ _ _ Hi Qu (zA0 T6 _ _ Hi Qu (by omega))
        exact⟨rfl,_,(zA0 Qy).own,(zA0 Qy).back,FIN.1,FIN.2⟩
       ·have j1:¬(s:Int)<(m:Int):=by omega
        have j2:¬(mid:Int)<(e:Int):=by omega
        have j3:(m:Int)<(e:Int):=by omega
        have j4:(s:Int)<(mid:Int):=by omega
        have j5:(a:Int)<(s:Int):=by omega
        have j6:¬(e:Int)<(b:Int):=by omega
        have Hi:=zA0 T2 (by omega)
        go_wp2_with (first | (go_at_call_of 139 (Value.int IntKind.i64 (a:Int));refine(zA0 T3 _ _ HA Hi (by omega) (by omega)).mono ?_;rintro e_1 w3 ⟨rfl,L2,Qy,Qu⟩;have cl0:=(zA0 Qy).c0;have cl1:=(zA0 Qy).c1))
        go_end0
        have FIN:=zA0 T7 _ _ _ Hi Qu (zA0 T6 _ _ Hi Qu (by omega))
        exact⟨rfl,_,(zA0 Qy).own,(zA0 Qy).back,FIN.1,FIN.2⟩
      ·by_cases z4:e<b
       ·have j1:¬(s:Int)<(m:Int):=by omega
        have j2:¬(mid:Int)<(e:Int):=by omega
        have j3:(m:Int)<(e:Int):=by omega
        have j4:(s:Int)<(mid:Int):=by omega
        have j5:¬(a:Int)<(s:Int):=by omega
        have j6:(e:Int)<(b:Int):=by omega
        have Hi:=zA0 T2 (by omega)
        go_wp2
        go_end0
        have FIN:=zA0 T7 _ _ _ Hi (zA0 T4 _ Hi (by omega)) (zA0 T6 _ _ Hi (zA0 T4 _ Hi (by omega)) (by omega))
        exact⟨rfl,_,(zA0 HA).own,(zA0 HA).back,FIN.1,FIN.2⟩
       ·have j1:¬(s:Int)<(m:Int):=by omega
        have j2:¬(mid:Int)<(e:Int):=by omega
        have j3:(m:Int)<(e:Int):=by omega
        have j4:(s:Int)<(mid:Int):=by omega
        have j5:¬(a:Int)<(s:Int):=by omega
        have j6:¬(e:Int)<(b:Int):=by omega
        have Hi:=zA0 T2 (by omega)
        go_wp2
        go_end0
        have FIN:=zA0 T7 _ _ _ Hi (zA0 T4 _ Hi (by omega)) (zA0 T6 _ _ Hi (zA0 T4 _ Hi (by omega)) (by omega))
        exact⟨rfl,_,(zA0 HA).own,(zA0 HA).back,FIN.1,FIN.2⟩
     ·by_cases z3:a<s
      ·by_cases z4:e<b
       ·have j1:¬(s:Int)<(m:Int):=by omega
        have j2:¬(mid:Int)<(e:Int):=by omega
        have j3:¬(m:Int)<(e:Int):=by omega
        have j4:¬(s:Int)<(mid:Int):=by omega
        have j5:(a:Int)<(s:Int):=by omega
        have j6:(e:Int)<(b:Int):=by omega
        have Hi:=zA0 T2 (by omega)
        go_wp2
        go_end0
        have FIN:=zA0 T7 _ _ _ Hi (zA0 T4 _ Hi (by omega)) (zA0 T6 _ _ Hi (zA0 T4 _ Hi (by omega)) (by omega))
        exact⟨rfl,_,(zA0 HA).own,(zA0 HA).back,FIN.1,FIN.2⟩
       ·have j1:¬(s:Int)<(m:Int):=by omega
        have j2:¬(mid:Int)<(e:Int):=by omega
        have j3:¬(m:Int)<(e:Int):=by omega
        have j4:¬(s:Int)<(mid:Int):=by omega
        have j5:(a:Int)<(s:Int):=by omega
        have j6:¬(e:Int)<(b:Int):=by omega
        have Hi:=zA0 T2 (by omega)
        go_wp2
        go_end0
        have FIN:=zA0 T7 _ _ _ Hi (zA0 T4 _ Hi (by omega)) (zA0 T6 _ _ Hi (zA0 T4 _ Hi (by omega)) (by omega))
        exact⟨rfl,_,(zA0 HA).own,(zA0 HA).back,FIN.1,FIN.2⟩
      ·by_cases z4:e<b
       ·have j1:¬(s:Int)<(m:Int):=by omega
        have j2:¬(mid:Int)<(e:Int):=by omega
        have j3:¬(m:Int)<(e:Int):=by omega
        have j4:¬(s:Int)<(mid:Int):=by omega
        have j5:¬(a:Int)<(s:Int):=by omega
        have j6:(e:Int)<(b:Int):=by omega
        have Hi:=zA0 T2 (by omega)
        go_wp2
        go_end0
        have FIN:=zA0 T7 _ _ _ Hi (zA0 T4 _ Hi (by omega)) (zA0 T6 _ _ Hi (zA0 T4 _ Hi (by omega)) (by omega))
        exact⟨rfl,_,(zA0 HA).own,(zA0 HA).back,FIN.1,FIN.2⟩
       ·have j1:¬(s:Int)<(m:Int):=by omega
        have j2:¬(mid:Int)<(e:Int):=by omega
        have j3:¬(m:Int)<(e:Int):=by omega
        have j4:¬(s:Int)<(mid:Int):=by omega
        have j5:¬(a:Int)<(s:Int):=by omega
        have j6:¬(e:Int)<(b:Int):=by omega
        have Hi:=zA0 T2 (by omega)
        go_wp2
        go_end0
        have FIN:=zA0 T7 _ _ _ Hi (zA0 T4 _ Hi (by omega)) (zA0 T6 _ _ Hi (zA0 T4 _ Hi (by omega)) (by omega))
        exact⟨rfl,_,(zA0 HA).own,(zA0 HA).back,FIN.1,FIN.2⟩
end Go.Proofs.YtekgpapophibcaaGreat

import Derived.Test.YtekgpapophibcaaGreatVecA
set_option linter.unusedSimpArgs false
set_option linter.unusedVariables false
set_option maxHeartbeats 4000000
namespace Go.Proofs.YtekgpapophibcaaGreat
open Go.RowKit Go.Sort
theorem zPn(a:Option Addr)(c:Nat)(ss:List ByteArray)(w:World)(l:ss.length<=1048576)(h:zAp w a (ss.map .string)) :
  Calls Tryz.prog 112 #[.slice a ss.length c,.func (.func 54) #[] #[]] w fun e w'=>(∃i:Int,e=.returned (.int .i64 i)/\Hid (decide (0<=i)=ss.any zAv))/\w'=w:=by
 have H:=zA3 h
 clear h
 go_enter Tryz.func112,Tryz.ntmps112
 go_wp2_with fail
 go_loopw[8] (fun i wr=>∃k:Nat,k<=ss.length/\i=.int .i64 k/\Hid (∀i y,i<k->ss[i]?=some y->zAv y=false)/\wr=w) (fun i _=>ss.length-(intOf i).toNat)
 case atStart=>exact⟨0,Nat.zero_le _,rfl,fun i y h=>by omega,rfl⟩
 case round=>
  obtain⟨k,hk,rfl,HN,rfl⟩:=hrel
  by_cases h1:k<ss.length
  ·obtain⟨s,hs⟩:∃s,ss[k]?=some s:=⟨_,zAf h1⟩
   obtain⟨pb,po,rfl,cp⟩:=(zA0 H).get (k:=k) (x:=.string s) (by simp[hs])
   have HS:=zA3 hs
   have i1:(k:Int)<(ss.length:Int):=by omega
   clear hs
   rcases Bool.eq_false_or_eq_true (zAv s) with e1|e1
   ·have HE:Hid (decide (0<=(k:Int))=ss.any zAv):=by show _=_;rw[zRl (zA0 HS) e1];simp
    go_wp2_with (go_at_call 54;refine(zDw _ _).mono ?_;rintro e w1 ⟨rfl,rfl⟩)
    go_ret
    exact⟨⟨_,rfl,HE⟩,rfl⟩
   ·have HP:=zA3 (zGg (zA0 HN) (zA0 HS) e1)
    go_wp2_with (go_at_call 54;refine(zDw _ _).mono ?_;rintro e w1 ⟨rfl,rfl⟩)
    go_roundw
    case rel=>exact⟨k+1,by omega,by go_num,HP,by first|rfl|trivial⟩
    case measure=>simp[intOf];omega
  ·have i1:¬(k:Int)<(ss.length:Int):=by omega
   have HE:Hid (decide (0<=(-1:Int))=ss.any zAv):=by
    show _=_
    have e:k=ss.length:=by omega
    rw[zKx (by rw[<-e];exact zA0 HN)];rfl
   go_wp2
   go_ret
   exact⟨⟨_,rfl,HE⟩,rfl⟩
theorem zJz(a:Option Addr)(c:Nat)(ss:List ByteArray)(w:World)(l:ss.length<=1048576)(h:zAp w a (ss.map .string)) :
  Calls Tryz.prog 99 #[.slice a ss.length c,.func (.func 54) #[] #[]] w fun e w'=>e=.returned (.bool (ss.any zAv))/\w'=w:=by
 have HI:=zA3 (zPn a c ss w l h)
 generalize ss.any zAv=Z at HI ⊢
 clear h l
 go_enter Tryz.func99,Tryz.ntmps99
 go_wp2_with (go_at_call 112;refine(zA0 HI).mono ?_;rintro e w1 ⟨⟨i,rfl,HE⟩,rfl⟩)
 go_ret
 exact⟨by rw[<-zA0 HE];rfl,rfl⟩
def small(X:Vc):Prop:=X.nl.length<=1048576/\X.ns.length<=1048576/\X.ss.length<=1048576
def zAg(X:Vc):Bool:=
 if X.k == 1 then X.ss.length == 0 && znN X.nl X.ns
 else if X.k == 2 then (X.ns.length == 0 && znS X.nl X.ss) && !X.ss.any zAv
 else false
theorem zFN(X:Vc)(p:Sl)(w:World)(hs:small X)(hp:zAi w X p) :
  Calls Tryz.prog 73 #[zCC X p] w fun e w'=>e=.returned (.bool (zAg X))/\Below w.heap.size w w':=by
 rw[zAM]
 obtain⟨l1,l2,l3⟩:=hs
 have HN:Hid (∀w',Below w.heap.size w w'->Calls Tryz.prog 97 #[.slice p.a1 X.nl.length p.c1,.slice p.a2 X.ns.length p.c2] w' fun e w''=>e=.returned (.bool (znN X.nl X.ns))/\w''=w'):=
  fun w' hb=>zNh _ _ _ _ _ _ _ l1 l2 (hp.1.later hb) (hp.2.1.later hb)
 have HT:Hid (∀w',Below w.heap.size w w'->Calls Tryz.prog 98 #[.slice p.a1 X.nl.length p.c1,.slice p.a3 X.ss.length p.c3] w' fun e w''=>e=.returned (.bool (znS X.nl X.ss))/\w''=w'):=
  fun w' hb=>zNg _ _ _ _ _ _ _ l1 l3 (hp.1.later hb) (hp.2.2.later hb)
 have HC:Hid (∀w',Below w.heap.size w w'->Calls Tryz.prog 99 #[.slice p.a3 X.ss.length p.c3,.func (.func 54) #[] #[]] w' fun e w''=>e=.returned (.bool (X.ss.any zAv))/\w''=w'):=
  fun w' hb=>zJz _ _ _ _ l3 (hp.2.2.later hb)
 clear hp
 rcases Bool.eq_false_or_eq_true (X.k == 1) with k1|k1
 ·have HG:Hid (zAg X=(X.ss.length == 0 && znN X.nl X.ns)):=by show _=_;simp[zAg,k1]
  generalize zAg X=G at HG ⊢
  by_cases z:X.ss.length=0
  ·have z':((X.ss.length:Int) == 0)=true:=by simp[z]
   have HE:Hid (G=znN X.nl X.ns):=by show _=_;rw[zA0 HG,z];simp
   clear z HG
   generalize znN X.nl X.ns=Z at HE HN
   go_enter Tryz.func73,Tryz.ntmps73
   go_wp2_with (go_at_call 97;refine(zA0 HN _ (zA1 (Below.refl _ _) _)).mono ?_;rintro e w1 ⟨rfl,rfl⟩)
   go_ret
   exact⟨by rw[zA0 HE];rfl,zA1 (Below.refl _ _) _⟩
  ·have z':((X.ss.length:Int) == 0)=false:=by simp;intro e;exact z (by rw[e];rfl)
   have HE:Hid (G=false):=by show _=_;rw[zA0 HG];simp;intro e;exact absurd (by rw[e];rfl) z
   clear z HG
   go_enter Tryz.func73,Tryz.ntmps73
   go_wp2
   go_ret
   exact⟨by rw[zA0 HE];rfl,zA1 (Below.refl _ _) _⟩
 ·rcases Bool.eq_false_or_eq_true (X.k == 2) with k2|k2
  ·have HG:Hid (zAg X=((X.ns.length == 0 && znS X.nl X.ss) && !X.ss.any zAv)):=by show _=_;simp[zAg,k1,k2]
   generalize zAg X=G at HG ⊢
   generalize znS X.nl X.ss=Z at HG HT
   generalize X.ss.any zAv=L at HG HC
   by_cases z:X.ns.length=0
   ·have z':((X.ns.length:Int) == 0)=true:=by simp[z]
    have HE:Hid (G=(Z && !L)):=by show _=_;rw[zA0 HG,z];simp
    clear z HG
    cases Z
    ·go_enter Tryz.func73,Tryz.ntmps73
     go_wp2_with (go_at_call 98;refine(zA0 HT _ (zA1 (Below.refl _ _) _)).mono ?_;rintro e w1 ⟨rfl,rfl⟩)
     go_ret
     exact⟨by rw[zA0 HE];rfl,zA1 (Below.refl _ _) _⟩
    ·go_enter Tryz.func73,Tryz.ntmps73
     go_wp2_with (first | (go_at_call 98;refine(zA0 HT _ (zA1 (Below.refl _ _) _)).mono ?_;rintro e w1 ⟨rfl,rfl⟩) | (go_at_call 99;refine(zA0 HC _ (zA1 (Below.refl _ _) _)).mono ?_;rintro e w1 ⟨rfl,rfl⟩))
     go_ret
     exact⟨by rw[zA0 HE];rfl,zA1 (Below.refl _ _) _⟩
   ·have z':((X.ns.length:Int) == 0)=false:=by simp;intro e;exact z (by rw[e];rfl)
    have HE:Hid (G=false):=by show _=_;rw[zA0 HG];simp;intro e;exact absurd (by rw[e];rfl) z
    clear z HG
    go_enter Tryz.func73,Tryz.ntmps73
    go_wp2
    go_ret
    exact⟨by rw[zA0 HE];rfl,zA1 (Below.refl _ _) _⟩
  ·have HE:Hid (zAg X=false):=by show _=_;simp[zAg,k1,k2]
   generalize zAg X=G at HE ⊢
   go_enter Tryz.func73,Tryz.ntmps73
   go_wp2
   go_ret
   exact⟨by rw[zA0 HE];rfl,zA1 (Below.refl _ _) _⟩
def nlC(ys:List Val)(k:Nat):List Value:=(zEt (ys.take k)).map .bool
def nC(ys:List Val)(k:Nat):List Value:=((ys.take k).map (·.n)).map (.int .i64)
def sC(ys:List Val)(k:Nat):List Value:=((ys.take k).map (·.s)).map .string
theorem take_one{ys:List Val}{k:Nat}{y:Val}(h:ys[k]?=some y):ys.take (k+1)=ys.take k++[y]:=by
 rw[List.take_add_one,h];rfl
theorem zPR{ys:List Val}{k:Nat}{y:Val}(h:ys[k]?=some y):nlC ys (k+1)=nlC ys k++[.bool (y.k == 0)]:=by simp[nlC,zEt,take_one h]
theorem zUD{ys:List Val}{k:Nat}{y:Val}(h:ys[k]?=some y):nC ys (k+1)=nC ys k++[.int .i64 y.n]:=by simp[nC,take_one h]
theorem zU1{ys:List Val}{k:Nat}{y:Val}(h:ys[k]?=some y):sC ys (k+1)=sC ys k++[.string y.s]:=by simp[sC,take_one h]
theorem zPS(ys:List Val)(k:Nat):(nlC ys k).length<=ys.length:=by simp[nlC,zEt];omega
theorem zUE(ys:List Val)(k:Nat):(nC ys k).length<=ys.length:=by simp[nC];omega
theorem zU2(ys:List Val)(k:Nat):(sC ys k).length<=ys.length:=by simp[sC];omega
theorem zCj{w:World}{base e size:Nat}{v:Value}{m:Nat}{xs:List Value}(h:w.ownsRow base e size v m xs):∃a c,v=.slice a m c:=by
 rcases h.2 with ⟨rfl,rfl⟩|⟨g,cap,cur,rfl,_⟩
 ·exact⟨none,0,rfl⟩
 ·exact⟨_,_,rfl⟩
theorem TI.boxg1{w0 w w1:World}{kind:Int}{s1 s2 s3 so:Value}{t:Nat}{c1 co:List Value}{o:Obj}(h:TI w0 w kind s1 s2 s3 so t c1 co)(hg:(w.alloc o).grownBy w1 s1.ownBlock):w1.rowIs (w0.heap.size+1) 49 4 (zGA (.int .i64 kind) s1 s2 s3):=
 zAF (h.box.alloc o) hg (zBL (h.box.alloc o) (h.own1.alloc o) (by decide))
theorem TI.boxg2{w0 w w1:World}{kind:Int}{s1 s2 s3 so:Value}{t:Nat}{c1 co:List Value}{o:Obj}(h:TI w0 w kind s1 s2 s3 so t c1 co)(ht:49≠t)(hg:(w.alloc o).grownBy w1 so.ownBlock):w1.rowIs (w0.heap.size+1) 49 4 (zGA (.int .i64 kind) s1 s2 s3):=
 zAF (h.box.alloc o) hg (zBL (h.box.alloc o) (h.own2.alloc o) ht)
theorem TI.start(w:World)(kind:Int)(t:Nat) :
  TI w ((w.alloc (.cells #[.int .i64 0,.slice none 0 0,.slice none 0 0,.slice none 0 0] 49)).alloc (.cells #[.int .i64 kind,.slice none 0 0,.slice none 0 0,.slice none 0 0] 49)) kind noS noS noS noS t [] []:=by
 refine⟨by repeat (first|exact Below.refl _ _|refine Below.alloc ?_ (by simp<;>omega) _),(World.rowIs_alloc w _ 49 _ (zDQ _ _ _ _)).alloc _,?_,World.ownsRow_nil _ _ _ _,World.ownsRow_nil _ _ _ _⟩
 have h:=World.rowIs_alloc (w.alloc (.cells #[.int .i64 0,.slice none 0 0,.slice none 0 0,.slice none 0 0] 49)) _ 49 _ (zDQ (.int .i64 kind) (.slice none 0 0) (.slice none 0 0) (.slice none 0 0))
 simpa [noS] using h
theorem zOn(a:Option Addr)(c:Nat)(xs:List Val)(w:World)(hl:xs.length*32<=140737488351232)(ha:zAR w a xs) :
  Calls Tryz.prog 17 #[.int .i64 1,.slice a xs.length c] w fun e w'=>∃p,e=.returned (.tuple #[zCC (zBU 1 xs).1 p,.int .i64 (zBU 1 xs).2])/\zAi w' (zBU 1 xs).1 p/\zBb w.heap.size p/\Below w.heap.size w w':=by
 obtain⟨i4,Qd,z40,z41,z42⟩:=info_parts Tryz.info4
 obtain⟨i2,ZY,z20,z21,z22⟩:=info_parts Tryz.info2
 generalize hX:zBU 1 xs=X
 have HX:=zA3 hX
 clear hX
 have HA:=zA3 ha
 clear ha
 obtain⟨ys,YE⟩:∃ys,ys=xs.map zA8:=⟨_,rfl⟩
 have HY:=zA3 YE
 have Gw:ys.length=xs.length:=by rw[YE];simp
 have QA:=zA3 Gw
 clear YE Gw
 go_enter Tryz.func17,Tryz.ntmps17
 go_wp2_with fail
 go_loopw[21,7] (fun i l wr=>∃(k:Nat) (L:Bool) (s1 s2:Value),k<=xs.length/\i=.int .i64 k/\l=.bool L/\Hid (∀i y,i<k->ys[i]?=some y->zFu 1 y=false)/\Hid (L=(ys.take k).any (fun y=>zAv y.s))/\TI w wr 1 s1 s2 noS s2 2 (nlC ys k) (nC ys k)) (fun i _ _=>xs.length-(intOf i).toNat)
 case atStart=>exact⟨0,false,noS,noS,Nat.zero_le _,rfl,rfl,fun i y h=>by omega,rfl,TI.start _ _ _⟩
 case round=>
  obtain⟨k,L,s1,s2,Yq,rfl,rfl,HN,HL,hI⟩:=hrel
  by_cases h1:k<xs.length
  ·obtain⟨x,YF⟩:∃x,xs[k]?=some x:=⟨_,zAf h1⟩
   rcases(zA0 HA).later hI.below with e|⟨ba,oa,rfl,Qq⟩
   ·subst e;simp at h1
   obtain⟨c0,c1,c2⟩:=Qq k x YF
   obtain⟨y,hy⟩:∃y,y=zA8 x:=⟨_,rfl⟩
   have HC:Hid (∀w,Calls Tryz.prog 31 #[x.v] w fun e w'=>e=.returned y.v/\Below w.heap.size w w'):=by rw[hy];exact zD2 x
   have HS:Hid (ys[k]?=some y):=by show _=_;rw[zA0 HY,hy];simp[YF]
   have i1:(k:Int)<(xs.length:Int):=by omega
   have QK:w.heap.size+1<wr.heap.size:=hI.box.lt
   have HI:=zA3 hI
   clear Qq YF hI hy
   go_upto_region 8 with fail
   go_cut[] (fun wx=>TI w wx 1 s1 s2 noS s2 2 (nlC ys k) (nC ys k)/\wx.rowIs wr.heap.size 59 3 (zDU y))
   case first=>
    have hI1:=(zA0 HI).later (zA1 (Below.refl _ wr) (.cells #[.int .i64 x.k,.int .i64 x.n,.string x.s] 59))
    have yw:=zAs wr x
    go_wp2_with (go_at_call 31;refine(zA0 HC _).mono ?_;rintro e w1 ⟨rfl,Hb⟩;rw[Val.open_];have yv:=zA5 yw Hb;obtain⟨p0,p1,p2,q0,q1,q2⟩:=zA9 yv)
    go_meet
    exact⟨(hI1.later Hb).set3 yv (by decide) (by omega) y,zIr yv⟩
   case rest=>
    obtain⟨Kd,Fm⟩:=hcut
    rename World=>wx
    have JL:=zA3 Kd
    have HVx:=zA3 Fm
    obtain⟨p0,p1,p2,q0,q1,q2⟩:=zA9 Fm
    obtain⟨r0,r1,r2,r3,f0,f1,f2,f3⟩:=zAk Kd.res
    clear Kd Fm HC HI c0 c1 c2
    go_upto_region 9 with fail
    go_cut[35] (fun s35 wy=>(∃bb,s35=.bool bb/\Hid (bb=zFu 1 y))/\wy=wx)
    case first=>
     rcases Bool.eq_false_or_eq_true (y.k != 0) with e1|e1
     ·go_wp2
      go_meet
      exact⟨⟨_,rfl,by show _=_;simp[zFu,e1]⟩,rfl⟩
     ·go_wp2
      go_meet
      exact⟨⟨_,rfl,by show _=_;simp[zFu,e1]⟩,rfl⟩
    case rest=>
     obtain⟨⟨bb,rfl,QX⟩,rfl⟩:=hcut
     cases bb
     rotate_left
     ·have eb:=(zA0 QX).symm
      have HE:Hid (X=(Vc.zero,4)):=by
       show _=_
       rw[<-zA0 HX,zBU,if_neg (by simp[zFM]),<-zA0 HY,if_pos (zIv (zA0 HS) eb)]
      clear eb
      go_wp2
      refine bodyPost_ret (v:=.tuple #[zAa,.int .i64 4]) (by simp[results,Tryz.results17,go_sem,zAa, *]) rfl ?_
      exact zEE (zA0 HE) (zBm (zA0 JL).below (Nat.le_refl _) _ _ _ _)
     ·have HP:=zA3 (zEL (zA0 HN) (zA0 HS) (zA0 QX).symm)
      clear HN r0 r1 r2 r3 f0 f1 f2 f3
      go_upto_region 11 with fail
      go_cut[7] (fun s7 wy=>s7=.bool (L || zAv y.s)/\wy=wc)
      case first=>
       cases L
       ·go_wp2
        go_meet
        exact⟨rfl,rfl⟩
       ·go_wp2
        go_meet
        exact⟨rfl,rfl⟩
      case rest=>
       obtain⟨rfl,rfl⟩:=hcut
       have HQ:Hid ((L || zAv y.s)=(ys.take (k+1)).any (fun y=>zAv y.s)):=by
        show _=_
        rw[take_one (zA0 HS),List.any_append,<-zA0 HL];simp
       generalize hL':(L || zAv y.s)=L' at HQ ⊢
       clear hL' HL
       obtain⟨b0,b1,b2,b3,g0,g1,g2,g3⟩:=zAk (zA0 JL).box
       have Hi:=zA3 (zPS ys k)
       have Qu:=zA3 (zUE ys k)
       go_upto_region 12 with fail
       have yf:w.heap.size+1<wc.heap.size:=(zA0 JL).box.lt
       have GI:Hid (ys.length*32<=140737488351232):=by show _<=_;rw[zA0 QA];exact hl
       go_cut[] (fun wy=>∃s1',TI w wy 1 s1' s2 noS s2 2 (nlC ys (k+1)) (nC ys k)/\wy.rowIs wr.heap.size 59 3 (zDU y))
       case first=>
        go_wp2_with (at_builtin;refine wpList_append_own_at _ rfl (.tmp 45) (.tmp 49) 45 rfl (w.heap.size+1+1) 4 i4 (.bool false) 1 1 Tryz.underlying45 Qd z40 z41 z42 rfl (by decide) _ _ _ rfl (World.ownsRow.alloc (zA0 JL).own1 _) ⟨wc.heap.size,0,none⟩ 1 1 [.bool (y.k == 0)] rfl rfl (cell_one_new _ _ _) (by intro u hu;simp at hu;subst hu;rfl) (by have:=zA0 Hi;have:=zA0 GI;unfold maxLen;omega) (by have:=zA0 Hi;have:=zA0 GI;omega) (by simp;omega) ?_;intro v1 w1 Hc Ha _ Hl;obtain⟨ad1,cp1,rfl⟩:=zCj Hc;have Hy:(wc.alloc (.cells #[.bool (y.k == 0)] 4)).grownBy w1 s1.ownBlock:=Ha;clear Ha Hl;obtain⟨bb0,bb1,bb2,bb3,gg0,gg1,gg2,gg3⟩:=zAk ((zA0 JL).boxg1 Hy))
        go_meet
        obtain⟨h1',h2',_⟩:=(zA0 JL).app1 (zA0 HVx) (by decide) (by decide) Hc Hy
        exact⟨_,by rw[zPR (zA0 HS)];exact h1',h2'⟩
       case rest=>
        obtain⟨s1',Da,hvy⟩:=hcut
        rename World=>wy
        clear b0 b1 b2 b3 g0 g1 g2 g3 p0 p1 p2 q0 q1 q2 JL HVx yf
        have KM:=zA3 Da
        obtain⟨p0,p1,p2,q0,q1,q2⟩:=zA9 hvy
        obtain⟨b0,b1,b2,b3,g0,g1,g2,g3⟩:=zAk Da.box
        have yf:w.heap.size+1<wy.heap.size:=Da.box.lt
        clear Da hvy
        go_wp2_with (at_builtin;refine wpList_append_own_at _ rfl (.tmp 55) (.tmp 58) 46 rfl (w.heap.size+1+1) 2 i2 (.int .i64 0) 1 8 Tryz.underlying46 ZY z20 z21 z22 rfl (by decide) _ _ _ rfl (World.ownsRow.alloc (zA0 KM).own2 _) ⟨wy.heap.size,0,none⟩ 1 1 [.int .i64 y.n] rfl rfl (cell_one_new _ _ _) (by intro u hu;simp at hu;subst hu;rfl) (by have:=zA0 Qu;have:=zA0 GI;unfold maxLen;omega) (by have:=zA0 Qu;have:=zA0 GI;omega) (by simp;omega) ?_;intro v1 w1 Hc Ha _ Hl;obtain⟨ad1,cp1,rfl⟩:=zCj Hc;have Hy:(wy.alloc (.cells #[.int .i64 y.n] 2)).grownBy w1 s2.ownBlock:=Ha;clear Ha Hl;obtain⟨bb0,bb1,bb2,bb3,gg0,gg1,gg2,gg3⟩:=zAk ((zA0 KM).boxg2 (by decide) Hy))
        go_roundw
        case rel=>exact⟨k+1,L',s1',_,by omega,by go_num,rfl,HP,HQ,by rw[zUD (zA0 HS)];exact(zA0 KM).app2 Hc Hy⟩
        case measure=>simp[intOf];omega
  ·have e:k=xs.length:=by omega
   have i1:¬(k:Int)<(xs.length:Int):=by omega
   have HB:Hid (ys.any (zFu 1)=false):=zGU (by rw[zA0 QA,<-e];exact zA0 HN)
   have HLL:Hid (L=ys.any (fun y=>zAv y.s)):=by
    have:=zA0 HL
    rw[e,<-zA0 QA,List.take_length] at this
    exact this
   have HF:Hid (nlC ys k=(zEt ys).map .bool/\nC ys k=(ys.map (·.n)).map (.int .i64)):=by
    unfold nlC nC
    rw[e,<-zA0 QA,List.take_length]
    exact⟨rfl,rfl⟩
   obtain⟨a1,c1,rfl,YK,QM⟩:=zBj hI.own1
   obtain⟨a2,c2,rfl,Yd,TU⟩:=zBj hI.own2
   rw[(zA0 HF).1] at YK
   rw[(zA0 HF).2] at Yd
   have e1:((zEt ys).map Value.bool).length=xs.length:=by rw[<-zA0 QA];simp[zEt]
   have e2:((ys.map (·.n)).map (Value.int .i64)).length=xs.length:=by rw[<-zA0 QA];simp
   rw[(zA0 HF).1,(zA0 HF).2,e1,e2] at hI
   have HI:=zA3 hI
   have Hi:=zA3 YK
   have Qu:=zA3 Yd
   have KR:=zA3 QM
   have Tz:=zA3 TU
   obtain⟨r0,r1,r2,r3,f0,f1,f2,f3⟩:=zAk hI.res
   obtain⟨b0,b1,b2,b3,g0,g1,g2,g3⟩:=zAk hI.box
   have b3':wr.cell? ⟨w.heap.size+1,3,none⟩=some (.slice none 0 0):=b3
   clear hI e YK Yd QM TU b3 e1 e2
   cases L
   ·have HE:Hid (X=(zBd 1 ys,0)):=by
     show _=_
     rw[<-zA0 HX,zBU,if_neg (by simp[zFM]),<-zA0 HY,if_neg (by rw[zA0 HB];simp),if_neg (by rw[<-zA0 HLL];simp)]
    go_wp2
    refine bodyPost_ret (v:=.tuple #[.agg #[.int .i64 1,.slice a1 xs.length c1,.slice a2 xs.length c2,.slice none 0 0],.int .i64 0]) (by simp[results,Tryz.results17,go_sem, *]) rfl ?_
    rw[zA0 HE]
    refine⟨⟨a1,c1,a2,c2,none,0⟩,?_,?_,?_,zBm (zA0 HI).below (Nat.le_refl _) _ _ _ _⟩
    ·rw[zAM];simp[zBd,zEt,zA0 QA]
    ·exact zAi.setO4 (X:=zBd 1 ys) (p:=⟨a1,c1,a2,c2,none,0⟩) (base:=w.heap.size+1+1) ⟨zA0 Hi,zA0 Qu,.inl rfl⟩ ⟨zA0 KR,zA0 Tz,by simp⟩ (by omega) _ _ _ _
    ·exact zBb.less (c:=w.heap.size+1+1) ⟨zA0 KR,zA0 Tz,by simp⟩ (by omega)
   ·have HE:Hid (X=(Vc.zero,3)):=by
     show _=_
     rw[<-zA0 HX,zBU,if_neg (by simp[zFM]),<-zA0 HY,if_neg (by rw[zA0 HB];simp),if_pos (zA0 HLL).symm]
    go_wp2
    refine bodyPost_ret (v:=.tuple #[zAa,.int .i64 3]) (by simp[results,Tryz.results17,go_sem,zAa, *]) rfl ?_
    exact zEE (zA0 HE) (zBm (zA0 HI).below (Nat.le_refl _) _ _ _ _)
theorem zMl(a:Option Addr)(c:Nat)(xs:List Val)(w:World)(hl:xs.length*32<=140737488351232)(ha:zAR w a xs) :
  Calls Tryz.prog 17 #[.int .i64 2,.slice a xs.length c] w fun e w'=>∃p,e=.returned (.tuple #[zCC (zBU 2 xs).1 p,.int .i64 (zBU 2 xs).2])/\zAi w' (zBU 2 xs).1 p/\zBb w.heap.size p/\Below w.heap.size w w':=by
 obtain⟨i4,Qd,z40,z41,z42⟩:=info_parts Tryz.info4
 obtain⟨i2,ZY,z20,z21,z22⟩:=info_parts Tryz.info9
 generalize hX:zBU 2 xs=X
 have HX:=zA3 hX
 clear hX
 have HA:=zA3 ha
 clear ha
 obtain⟨ys,YE⟩:∃ys,ys=xs.map zA8:=⟨_,rfl⟩
 have HY:=zA3 YE
 have Gw:ys.length=xs.length:=by rw[YE];simp
 have QA:=zA3 Gw
 clear YE Gw
 go_enter Tryz.func17,Tryz.ntmps17
 go_wp2_with fail
 go_loopw[21,7] (fun i l wr=>∃(k:Nat) (L:Bool) (s1 s2:Value),k<=xs.length/\i=.int .i64 k/\l=.bool L/\Hid (∀i y,i<k->ys[i]?=some y->zFu 2 y=false)/\Hid (L=(ys.take k).any (fun y=>zAv y.s))/\TI w wr 2 s1 noS s2 s2 9 (nlC ys k) (sC ys k)) (fun i _ _=>xs.length-(intOf i).toNat)
 case atStart=>exact⟨0,false,noS,noS,Nat.zero_le _,rfl,rfl,fun i y h=>by omega,rfl,TI.start _ _ _⟩
 case round=>
  obtain⟨k,L,s1,s2,Yq,rfl,rfl,HN,HL,hI⟩:=hrel
  by_cases h1:k<xs.length
  ·obtain⟨x,YF⟩:∃x,xs[k]?=some x:=⟨_,zAf h1⟩
   rcases(zA0 HA).later hI.below with e|⟨ba,oa,rfl,Qq⟩
   ·subst e;simp at h1
   obtain⟨c0,c1,c2⟩:=Qq k x YF
   obtain⟨y,hy⟩:∃y,y=zA8 x:=⟨_,rfl⟩
   have HC:Hid (∀w,Calls Tryz.prog 31 #[x.v] w fun e w'=>e=.returned y.v/\Below w.heap.size w w'):=by rw[hy];exact zD2 x
   have HS:Hid (ys[k]?=some y):=by show _=_;rw[zA0 HY,hy];simp[YF]
   have i1:(k:Int)<(xs.length:Int):=by omega
   have QK:w.heap.size+1<wr.heap.size:=hI.box.lt
   have HI:=zA3 hI
   clear Qq YF hI hy
   go_upto_region 8 with fail
   go_cut[] (fun wx=>TI w wx 2 s1 noS s2 s2 9 (nlC ys k) (sC ys k)/\wx.rowIs wr.heap.size 59 3 (zDU y))
   case first=>
    have hI1:=(zA0 HI).later (zA1 (Below.refl _ wr) (.cells #[.int .i64 x.k,.int .i64 x.n,.string x.s] 59))
    have yw:=zAs wr x
    go_wp2_with (go_at_call 31;refine(zA0 HC _).mono ?_;rintro e w1 ⟨rfl,Hb⟩;rw[Val.open_];have yv:=zA5 yw Hb;obtain⟨p0,p1,p2,q0,q1,q2⟩:=zA9 yv)
    go_meet
    exact⟨(hI1.later Hb).set3 yv (by decide) (by omega) y,zIr yv⟩
   case rest=>
    obtain⟨Kd,Fm⟩:=hcut
    rename World=>wx
    have JL:=zA3 Kd
    have HVx:=zA3 Fm
    obtain⟨p0,p1,p2,q0,q1,q2⟩:=zA9 Fm
    obtain⟨r0,r1,r2,r3,f0,f1,f2,f3⟩:=zAk Kd.res
    clear Kd Fm HC HI c0 c1 c2
    go_upto_region 9 with fail
    go_cut[35] (fun s35 wy=>(∃bb,s35=.bool bb/\Hid (bb=zFu 2 y))/\wy=wx)
    case first=>
     rcases Bool.eq_false_or_eq_true (y.k != 0) with e1|e1
     ·go_wp2
      go_meet
      exact⟨⟨_,rfl,by show _=_;simp[zFu,e1]⟩,rfl⟩
     ·go_wp2
      go_meet
      exact⟨⟨_,rfl,by show _=_;simp[zFu,e1]⟩,rfl⟩
    case rest=>
     obtain⟨⟨bb,rfl,QX⟩,rfl⟩:=hcut
     cases bb
     rotate_left
     ·have eb:=(zA0 QX).symm
      have HE:Hid (X=(Vc.zero,4)):=by
       show _=_
       rw[<-zA0 HX,zBU,if_neg (by simp[zFM]),<-zA0 HY,if_pos (zIv (zA0 HS) eb)]
      clear eb
      go_wp2
      refine bodyPost_ret (v:=.tuple #[zAa,.int .i64 4]) (by simp[results,Tryz.results17,go_sem,zAa, *]) rfl ?_
      exact zEE (zA0 HE) (zBm (zA0 JL).below (Nat.le_refl _) _ _ _ _)
     ·have HP:=zA3 (zEL (zA0 HN) (zA0 HS) (zA0 QX).symm)
      clear HN r0 r1 r2 r3 f0 f1 f2 f3
      go_upto_region 11 with fail
      go_cut[7] (fun s7 wy=>s7=.bool (L || zAv y.s)/\wy=wc)
      case first=>
       cases L
       ·go_wp2
        go_meet
        exact⟨rfl,rfl⟩
       ·go_wp2
        go_meet
        exact⟨rfl,rfl⟩
      case rest=>
       obtain⟨rfl,rfl⟩:=hcut
       have HQ:Hid ((L || zAv y.s)=(ys.take (k+1)).any (fun y=>zAv y.s)):=by
        show _=_
        rw[take_one (zA0 HS),List.any_append,<-zA0 HL];simp
       generalize hL':(L || zAv y.s)=L' at HQ ⊢
       clear hL' HL
       obtain⟨b0,b1,b2,b3,g0,g1,g2,g3⟩:=zAk (zA0 JL).box
       have Hi:=zA3 (zPS ys k)
       have Qu:=zA3 (zU2 ys k)
       go_upto_region 12 with fail
       have yf:w.heap.size+1<wc.heap.size:=(zA0 JL).box.lt
       have GI:Hid (ys.length*32<=140737488351232):=by show _<=_;rw[zA0 QA];exact hl
       go_cut[] (fun wy=>∃s1',TI w wy 2 s1' noS s2 s2 9 (nlC ys (k+1)) (sC ys k)/\wy.rowIs wr.heap.size 59 3 (zDU y))
       case first=>
        go_wp2_with (at_builtin;refine wpList_append_own_at _ rfl (.tmp 45) (.tmp 49) 45 rfl (w.heap.size+1+1) 4 i4 (.bool false) 1 1 Tryz.underlying45 Qd z40 z41 z42 rfl (by decide) _ _ _ rfl (World.ownsRow.alloc (zA0 JL).own1 _) ⟨wc.heap.size,0,none⟩ 1 1 [.bool (y.k == 0)] rfl rfl (cell_one_new _ _ _) (by intro u hu;simp at hu;subst hu;rfl) (by have:=zA0 Hi;have:=zA0 GI;unfold maxLen;omega) (by have:=zA0 Hi;have:=zA0 GI;omega) (by simp;omega) ?_;intro v1 w1 Hc Ha _ Hl;obtain⟨ad1,cp1,rfl⟩:=zCj Hc;have Hy:(wc.alloc (.cells #[.bool (y.k == 0)] 4)).grownBy w1 s1.ownBlock:=Ha;clear Ha Hl;obtain⟨bb0,bb1,bb2,bb3,gg0,gg1,gg2,gg3⟩:=zAk ((zA0 JL).boxg1 Hy))
        go_meet
        obtain⟨h1',h2',_⟩:=(zA0 JL).app1 (zA0 HVx) (by decide) (by decide) Hc Hy
        exact⟨_,by rw[zPR (zA0 HS)];exact h1',h2'⟩
       case rest=>
        obtain⟨s1',Da,hvy⟩:=hcut
        rename World=>wy
        clear b0 b1 b2 b3 g0 g1 g2 g3 p0 p1 p2 q0 q1 q2 JL HVx yf
        have KM:=zA3 Da
        obtain⟨p0,p1,p2,q0,q1,q2⟩:=zA9 hvy
        obtain⟨b0,b1,b2,b3,g0,g1,g2,g3⟩:=zAk Da.box
        have yf:w.heap.size+1<wy.heap.size:=Da.box.lt
        clear Da hvy
        go_wp2_with (at_builtin;refine wpList_append_own_at _ rfl (.tmp 62) (.tmp 65) 47 rfl (w.heap.size+1+1) 9 i2 (.string ⟨#[]⟩) 1 16 Tryz.underlying47 ZY z20 z21 z22 rfl (by decide) _ _ _ rfl (World.ownsRow.alloc (zA0 KM).own2 _) ⟨wy.heap.size,0,none⟩ 1 1 [.string y.s] rfl rfl (cell_one_new _ _ _) (by intro u hu;simp at hu;subst hu;rfl) (by have:=zA0 Qu;have:=zA0 GI;unfold maxLen;omega) (by have:=zA0 Qu;have:=zA0 GI;omega) (by simp;omega) ?_;intro v1 w1 Hc Ha _ Hl;obtain⟨ad1,cp1,rfl⟩:=zCj Hc;have Hy:(wy.alloc (.cells #[.string y.s] 9)).grownBy w1 s2.ownBlock:=Ha;clear Ha Hl;obtain⟨bb0,bb1,bb2,bb3,gg0,gg1,gg2,gg3⟩:=zAk ((zA0 KM).boxg2 (by decide) Hy))
        go_roundw
        case rel=>exact⟨k+1,L',s1',_,by omega,by go_num,rfl,HP,HQ,by rw[zU1 (zA0 HS)];exact(zA0 KM).app3 Hc Hy⟩
        case measure=>simp[intOf];omega
  ·have e:k=xs.length:=by omega
   have i1:¬(k:Int)<(xs.length:Int):=by omega
   have HB:Hid (ys.any (zFu 2)=false):=zGU (by rw[zA0 QA,<-e];exact zA0 HN)
   have HLL:Hid (L=ys.any (fun y=>zAv y.s)):=by
    have:=zA0 HL
    rw[e,<-zA0 QA,List.take_length] at this
    exact this
   have HF:Hid (nlC ys k=(zEt ys).map .bool/\sC ys k=(ys.map (·.s)).map .string):=by
    unfold nlC sC
    rw[e,<-zA0 QA,List.take_length]
    exact⟨rfl,rfl⟩
   obtain⟨a1,c1,rfl,YK,QM⟩:=zBj hI.own1
   obtain⟨a2,c2,rfl,Yd,TU⟩:=zBj hI.own2
   rw[(zA0 HF).1] at YK
   rw[(zA0 HF).2] at Yd
   have e1:((zEt ys).map Value.bool).length=xs.length:=by rw[<-zA0 QA];simp[zEt]
   have e2:((ys.map (·.s)).map Value.string).length=xs.length:=by rw[<-zA0 QA];simp
   rw[(zA0 HF).1,(zA0 HF).2,e1,e2] at hI
   have HI:=zA3 hI
   have Hi:=zA3 YK
   have Qu:=zA3 Yd
   have KR:=zA3 QM
   have Tz:=zA3 TU
   obtain⟨r0,r1,r2,r3,f0,f1,f2,f3⟩:=zAk hI.res
   obtain⟨b0,b1,b2,b3,g0,g1,g2,g3⟩:=zAk hI.box
   have b3':wr.cell? ⟨w.heap.size+1,2,none⟩=some (.slice none 0 0):=b2
   clear hI e YK Yd QM TU b2 e1 e2
   cases L
   ·have HE:Hid (X=(zBd 2 ys,0)):=by
     show _=_
     rw[<-zA0 HX,zBU,if_neg (by simp[zFM]),<-zA0 HY,if_neg (by rw[zA0 HB];simp),if_neg (by rw[<-zA0 HLL];simp)]
    go_wp2
    refine bodyPost_ret (v:=.tuple #[.agg #[.int .i64 2,.slice a1 xs.length c1,.slice none 0 0,.slice a2 xs.length c2],.int .i64 0]) (by simp[results,Tryz.results17,go_sem, *]) rfl ?_
    rw[zA0 HE]
    refine⟨⟨a1,c1,none,0,a2,c2⟩,?_,?_,?_,zBm (zA0 HI).below (Nat.le_refl _) _ _ _ _⟩
    ·rw[zAM];simp[zBd,zEt,zA0 QA]
    ·exact zAi.setO4 (X:=zBd 2 ys) (p:=⟨a1,c1,none,0,a2,c2⟩) (base:=w.heap.size+1+1) ⟨zA0 Hi,.inl rfl,zA0 Qu⟩ ⟨zA0 KR,by simp,zA0 Tz⟩ (by omega) _ _ _ _
    ·exact zBb.less (c:=w.heap.size+1+1) ⟨zA0 KR,by simp,zA0 Tz⟩ (by omega)
   ·have HE:Hid (X=(Vc.zero,3)):=by
     show _=_
     rw[<-zA0 HX,zBU,if_neg (by simp[zFM]),<-zA0 HY,if_neg (by rw[zA0 HB];simp),if_pos (zA0 HLL).symm]
    go_wp2
    refine bodyPost_ret (v:=.tuple #[zAa,.int .i64 3]) (by simp[results,Tryz.results17,go_sem,zAa, *]) rfl ?_
    exact zEE (zA0 HE) (zBm (zA0 HI).below (Nat.le_refl _) _ _ _ _)
theorem zKi(a:Option Addr)(c:Nat)(kind:Int)(xs:List Val)(w:World)(h1:(kind != 1)=true)(h2:(kind != 2)=true) :
  Calls Tryz.prog 17 #[.int .i64 kind,.slice a xs.length c] w fun e w'=>∃p,e=.returned (.tuple #[zCC (zBU kind xs).1 p,.int .i64 (zBU kind xs).2])/\zAi w' (zBU kind xs).1 p/\zBb w.heap.size p/\Below w.heap.size w w':=by
 have HE:Hid (zBU kind xs=(Vc.zero,1)):=by
  show _=_
  rw[zBU,if_pos (by simp at h1 h2;simp[zFM,h1,h2])]
 generalize zBU kind xs=X at HE ⊢
 go_enter Tryz.func17,Tryz.ntmps17
 go_wp2
 refine bodyPost_ret (v:=.tuple #[zAa,.int .i64 1]) (by simp[results,Tryz.results17,go_sem,zAa, *]) rfl ?_
 exact zEE (zA0 HE) (by repeat (first|exact Below.refl _ _|refine Below.alloc ?_ (by simp<;>omega) _|refine Below.setCell ?_ (by simp<;>omega) _))
theorem zGp(a:Option Addr)(c:Nat)(kind:Int)(xs:List Val)(w:World)(hl:xs.length*32<=140737488351232)(ha:zAR w a xs) :
  Calls Tryz.prog 17 #[.int .i64 kind,.slice a xs.length c] w fun e w'=>∃p,e=.returned (.tuple #[zCC (zBU kind xs).1 p,.int .i64 (zBU kind xs).2])/\zAi w' (zBU kind xs).1 p/\zBb w.heap.size p/\Below w.heap.size w w':=by
 by_cases h1:kind=1
 ·subst h1;exact zOn a c xs w hl ha
 ·by_cases h2:kind=2
  ·subst h2;exact zMl a c xs w hl ha
  ·exact zKi a c kind xs w (by simpa using h1) (by simpa using h2)
end Go.Proofs.YtekgpapophibcaaGreat

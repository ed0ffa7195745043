import Derived.Test.YtekgpapophibcaaGreatSrQ
import Derived.Test.YtekgpapophibcaaGreatSsD
set_option linter.unusedSimpArgs false
set_option linter.unusedVariables false
set_option maxHeartbeats 16000000
set_option maxRecDepth 100000
namespace Go.Proofs.YtekgpapophibcaaGreat
open Go.RowKit Go.Sort
theorem zNa.open_{w w':World}{Xs:List Vc}{rows n:Nat}{e:Ending}(hn:Xs.length=n)(h:zNa w w' Xs rows e):∃(al ah an:Option Addr) (cl ch cn:Nat),e=.returned (.tuple #[.agg #[.int .i64 (rows:Int),.slice al n cl,.slice ah n ch,.slice an n cn],.int .i64 0])/\(zAR w' al (Xs.map zHI)/\zAR w' ah (Xs.map zDK)/\zAp w' an ((Xs.map fun X=>((zGD X:Nat):Int)).map (Value.int .i64)))/\Below w.heap.size w w':=by
 obtain⟨lv,hv,nv,b,rfl,h1,h2,h3,h4⟩:=h
 obtain⟨al,cl,rfl,g1⟩:=zBy h1
 obtain⟨ah,ch,rfl,g2⟩:=zBy h2
 obtain⟨an,cn,rfl,g3,_⟩:=zBj h3
 refine⟨al,ah,an,cl,ch,cn,by simp only[List.length_map,hn],⟨g1,g2,?_⟩,h4⟩
 rw[List.map_map]
 exact g3
def gA(n:Nat)(cs:List Int)(j:Nat):Int:=if (cs.take j).any (zGM n) then 1 else 0
theorem zTW{n:Nat}{cs:List Int}{j:Nat}{c:Int}(h:cs[j]?=some c):gA n cs (j+1)=if gA n cs j=1∨zGM n c=true then 1 else 0:=by
 unfold gA
 rw[zGT _ h]
 cases (cs.take j).any (zGM n)<;>cases zGM n c<;>simp
theorem zUJ(n:Nat)(cs:List Int)(j:Nat):gA n cs j=0∨gA n cs j=1:=by
 unfold gA
 split
 ·exact .inr rfl
 ·exact .inl rfl
theorem zOT(w:World)(B i:Nat)(u v x y:Value)(Hg:i≠B):(((((w.setCell ⟨B,0,none⟩ u).setCell ⟨B,1,none⟩ v).setCell ⟨B,2,none⟩ x).setCell ⟨B,3,none⟩ y)).heap[i]?=w.heap[i]?:=by
 rw[Below.heap_setCell _ _ _ _ (by simpa using Hg),Below.heap_setCell _ _ _ _ (by simpa using Hg),Below.heap_setCell _ _ _ _ (by simpa using Hg),Below.heap_setCell _ _ _ _ (by simpa using Hg)]
theorem zM7{w:World}{B:Nat}{a b c d:Value}(h:w.rowIs B 49 4 (zGA a b c d))(u v x y:Value):(((((w.setCell ⟨B,0,none⟩ u).setCell ⟨B,1,none⟩ v).setCell ⟨B,2,none⟩ x).setCell ⟨B,3,none⟩ y)).rowIs B 49 4 (zGA u v x y):=
 World.rowIs.congr ((((h.set 0 u).set 1 v).set 2 x).set 3 y) (fun i hi=>by match i,hi with|0,_=>rfl|1,_=>rfl|2,_=>rfl|3,_=>rfl)
theorem zPj{l:List UInt8}(hl:l.length<=140737488300000){Xs:List Vc}{ps:List (ByteArray×ByteArray)}(h:Seg l Xs ps)(i:Int){X:Vc}{ec:Int}(hi:(∃k:Nat,i=(k:Int)/\Xs[k]?=some X/\ec=0)∨((i<0∨(Xs.length:Int)<=i)/\X=.zero/\ec=1))(cs:List Int)(a:Option Addr)(cp:Nat)(w:World)(YN:cs.length<=1048576)(ha:zAp w a (cs.map (Value.int .i64))) :
  Calls Tryz.prog 4 #[.string (bs l),.int .i64 i,.slice a cs.length cp] w fun e w'=>e=.returned (.bool true)/\Below w.heap.size w w':=by
 obtain⟨i4,Qd,z40,z41,z42⟩:=info_parts Tryz.info59
 obtain⟨i7,hi7,z70,z71,z72⟩:=info_parts Tryz.info37
 have yb:=h.lay.len
 have JD:=h.lay.n2
 have h1:=h.lay.n1
 rw[<-yb] at JD h1
 have Yp:=h.lay.rows
 have K8:=zA3 (fun W=>zLg hl h W)
 have K9:=zA3 (fun W=>zRR hl h W)
 have K10:=zA3 (fun W=>zOK hl h W)
 have K12:=zA3 (fun W=>zMZ hl h W)
 have K13:=zA3 (fun W=>(zRm hl h W).mono fun e w' hq=>zNa.open_ (n:=Xs.length) rfl hq)
 have K14:=zA3 (fun W=>(zNB hl h W).mono fun e w' hq=>zNa.open_ (n:=Xs.length) rfl hq)
 have hsX:small X:=by
  rcases hi with ⟨k,_,hX,_⟩|⟨_,rfl,_⟩
  ·exact(h.lay.fit (List.mem_of_getElem? hX)).small
  ·exact⟨by simp[Vc.zero],by simp[Vc.zero],by simp[Vc.zero]⟩
 have K16:Hid (∀W,Calls Tryz.prog 16 #[.string (bs l),.int .i64 i] W fun e w'=>∃p:Sl,e=.returned (.tuple #[.agg #[.int .i64 X.k,.slice p.a1 X.nl.length p.c1,.slice p.a2 X.ns.length p.c2,.slice p.a3 X.ss.length p.c3],.int .i64 ec])/\zAi w' X p/\Below W.heap.size W w'):=fun W=>by
  rcases hi with ⟨k,rfl,hX,rfl⟩|⟨hi,rfl,rfl⟩
  ·exact(zMb hl h k hX W).mono (by rintro e w' ⟨p,rfl,h1,_,h2⟩;exact⟨p,rfl,h1,h2⟩)
  ·exact(zKZ hl h i (by rw[<-yb];exact hi) W).mono (by rintro e w' ⟨rfl,h2⟩;exact⟨⟨none,0,none,0,none,0⟩,rfl,zAi.zero _,h2⟩)
 have K19:Hid (∀W p q,zAi W X p->zAi W X q->Calls Tryz.prog 19 #[.agg #[.int .i64 X.k,.slice p.a1 X.nl.length p.c1,.slice p.a2 X.ns.length p.c2,.slice p.a3 X.ss.length p.c3],.agg #[.int .i64 X.k,.slice q.a1 X.nl.length q.c1,.slice q.a2 X.ns.length q.c2,.slice q.a3 X.ss.length q.c3]] W fun e w'=>e=.returned (.bool true)/\Below W.heap.size W w'):=fun W p q hp hq=>zG3 X p q W ⟨by unfold maxLen;have:=hsX.1;omega,by unfold maxLen;have:=hsX.2.1;omega,by unfold maxLen;have:=hsX.2.2;omega⟩ hp hq
 have K20:Hid (∀W,Below w.heap.size w W->Calls Tryz.prog 20 #[.string (bs l),.slice a cs.length cp] W fun e w'=>zSL W w' Xs (zCn l) cs e):=fun W hW=>zOL hl h cs a cp W YN (ha.later hW)
 obtain⟨rows,QZ⟩:∃rows,zCn l=rows:=⟨_,rfl⟩
 obtain⟨n,Yb⟩:∃n,Xs.length=n:=⟨_,rfl⟩
 obtain⟨s,hs⟩:∃s,bs l=s:=⟨_,rfl⟩
 rw[QZ,hs,Yb] at K8 K13 K14
 rw[hs] at K9 K16
 rw[QZ,hs] at K10 K20
 have K12':Hid (∀W,Calls Tryz.prog 12 #[.string s] W fun e w'=>∃a c,e=.returned (.slice a n c)/\zAp w' a (Xs.map fun X=>Value.int .i64 X.k)/\Below W.heap.size W w'):=fun W=>by
  have:=zA0 K12 W
  rw[hs] at this
  refine this.mono ?_
  rintro e w' ⟨a,c,rfl,h1,h2⟩
  exact⟨a,c,by rw[Yb],h1,h2⟩
 clear K12
 rw[hs]
 rw[Yb] at JD h1
 rw[QZ] at Yp
 have K15:Hid (∀W al ah an bl bh bn cl ch cn dl dh dn,(zAR W al (Xs.map zHI)/\zAR W ah (Xs.map zDK)/\zAp W an ((Xs.map fun X=>((zGD X:Nat):Int)).map (Value.int .i64)))->(zAR W bl (Xs.map zHI)/\zAR W bh (Xs.map zDK)/\zAp W bn ((Xs.map fun X=>((zGD X:Nat):Int)).map (Value.int .i64)))->Calls Tryz.prog 15 #[.agg #[.int .i64 (rows:Int),.slice al n cl,.slice ah n ch,.slice an n cn],.agg #[.int .i64 (rows:Int),.slice bl n dl,.slice bh n dh,.slice bn n dn]] W fun e w'=>e=.returned (.bool true)/\Below W.heap.size W w'):=fun W al ah an bl bh bn cl ch cn dl dh dn p q=>by
  have:=zFB (rows:Int) al ah an bl bh bn cl ch cn dl dh dn (Xs.map zHI) (Xs.map zDK) (Xs.map fun X=>((zGD X:Nat):Int)) W (by simp;omega) (by simp;omega) (by simp;omega) p.1 p.2.1 p.2.2 q.1 q.2.1 q.2.2
  simp only[List.length_map,Yb] at this
  exact this
 rw[Yb] at hi
 have HI:=zA3 hi
 clear hi hsX
 have QS:=zA3 Yb
 have HA:=zA3 ha
 clear h hl hs ha yb Yb QZ
 have icl:(cs.length:Int)<=1048576:=by omega
 have i32:(n:Int)<=32:=by omega
 have i1:(1:Int)<=(n:Int):=by omega
 have irw:(rows:Int)<=4096:=by omega
 go_enter Tryz.func4,Tryz.ntmps4
 go_upto_region 6 with (go_at_call 8;refine(zA0 K8 _).mono ?_;rintro _ w1 ⟨Cs,ak,ar,ck,cr,hXX,rfl,GW,Yq,QB,hb⟩;have HX:=zA3 hXX;have Dx:=zA3 GW;have Yt:=zA3 Yq;have qd:=zA3 QB;have Qa:=zA3 hb;clear hXX GW Yq QB hb)
 have Dd:Cs.length=n:=by have:=zA0 HX;rw[<-zA0 QS,<-this,List.length_map]
 have hRl:(zAn Cs).length=rows:=(zA0 Dx).rows (by omega)
 have K11:Hid (∀W a c,Below w1.heap.size w1 W->zAp W a (Xs.map fun X=>Value.int .i64 X.k)->Calls Tryz.prog 11 #[.slice a n c,.slice ak n ck] W fun e w'=>e=.returned (.bool true)/\Below W.heap.size W w'):=fun W a c hW hl=>by
  have:=zDm a ak c ck (zBk Cs) W (by rw[zB3];unfold maxLen;omega) (by rw[<-zA0 HX] at hl;simpa [zBk,Function.comp_def] using hl) ((zA0 Yt).later hW)
  rw[zB3,Dd] at this
  exact this
 have qQ:=zA3 Dd
 have JG:=zA3 hRl
 clear Dd hRl
 go_upto_region 10 with (first
  | (go_at_call 9;refine(zA0 K9 _).mono ?_;rintro _ w2 ⟨rfl,hb⟩;have Qz:=zA3 hb;clear hb)
  | (go_at_call 7;refine(zDu _ _).mono ?_;rintro _ w9 ⟨rfl,h9⟩;rw[h9];clear h9)
  | (go_at_call 10;refine(zA0 K10 _).mono ?_;rintro _ w3 ⟨rfl,hb⟩;have Yo:=zA3 (zA2 (zA0 Qz) hb);clear hb)
  | (go_at_call 12;refine(zA0 K12' _).mono ?_;rintro _ w4 ⟨ac,cc,rfl,hl4,hb⟩;have DB:=zA3 (zA2 (zA0 Yo) hb);have HL4:=zA3 hl4;clear hb hl4)
  | (go_at_call 11;refine(zA0 K11 _ _ _ (zA0 DB) (zA0 HL4)).mono ?_;rintro _ w5 ⟨rfl,hb⟩;have yo:=zA3 (zA2 (zA0 DB) hb);clear hb)
  | (go_at_call 13;refine(zA0 K13 _).mono ?_;rintro _ w6 ⟨al,ah,an,cl,ch,cn,rfl,hq6,hb⟩;have HB6:=zA3 (zA2 (zA0 yo) hb);have HQ6:=zA3 hq6;clear hb hq6)
  | (go_at_call 14;refine(zA0 K14 _).mono ?_;rintro _ w7 ⟨bl,bh,bn,dl,dh,dn,rfl,hq7,hb⟩;have Zh:=zA3 (zA2 (zA1 (zA0 HB6) _) hb);have HR7:=zA3 (zA5 (zCF w6 (rows:Int) (.slice al n cl) (.slice ah n ch) (.slice an n cn)) hb);have HP7:=zA3 (And.intro ((zA0 HQ6).1.later (zAP hb)) (And.intro ((zA0 HQ6).2.1.later (zAP hb)) ((zA0 HQ6).2.2.later (zAP hb))));have HQ7:=zA3 hq7;clear hb hq7))
 obtain⟨⟨x0,x1,x2,x3⟩,_⟩:=zBX (zA0 HR7)
 have FA:=(zA0 HR7).lt
 have Jh:=zA3 (zA1 (zA0 Zh) (.cells #[.int .i64 (rows:Int),.slice bl n dl,.slice bh n dh,.slice bn n dn] 39))
 have K15':=zA3 (zA0 K15 (w7.alloc (.cells #[.int .i64 (rows:Int),.slice bl n dl,.slice bh n dh,.slice bn n dn] 39)) al ah an bl bh bn cl ch cn dl dh dn ⟨(zA0 HP7).1.later (zA1 (Below.refl _ _) _),(zA0 HP7).2.1.later (zA1 (Below.refl _ _) _),(zA0 HP7).2.2.later (zA1 (Below.refl _ _) _)⟩ ⟨(zA0 HQ7).1.later (zA1 (Below.refl _ _) _),(zA0 HQ7).2.1.later (zA1 (Below.refl _ _) _),(zA0 HQ7).2.2.later (zA1 (Below.refl _ _) _)⟩)
 go_upto_region 12 with (first
  | (go_at_call 7;refine(zDu _ _).mono ?_;rintro _ w9 ⟨rfl,h9⟩;rw[h9];clear h9)
  | (go_at_call 15;refine(zA0 K15').mono ?_;rintro _ w10 ⟨rfl,hb⟩;have JO:=zA3 (zA2 (zA0 Jh) hb);clear hb))
 clear x0 x1 x2 x3 FA K15 K15' HP7 HQ7 HR7 HQ6 HL4 K11 K12' K13 K14
 go_upto_region 14 with (go_at_call 16;refine(zA0 K16 _).mono ?_;rintro _ w11 ⟨p,rfl,hv,hb⟩;have DF:=zA3 (zA2 (zA0 JO) hb);have HV11:=zA3 hv;clear hb hv)
 obtain⟨tb,htb⟩:∃b,(ec == 0)=b:=⟨_,rfl⟩
 have HT:Hid ((tb=true/\∃k:Nat,i=(k:Int)/\Xs[k]?=some X/\k<n/\ec=0)∨(tb=false/\(i<0∨(n:Int)<=i)/\X=.zero/\ec=1)):=by
  rcases zA0 HI with ⟨k,e1,hX,e2⟩|⟨h,e1,e2⟩
  ·exact .inl ⟨by rw[<-htb,e2];rfl,k,e1,hX,by rw[<-zA0 QS];exact(zAL hX).1,e2⟩
  ·exact .inr ⟨by rw[<-htb,e2];rfl,h,e1,e2⟩
 have HTB:=zA3 htb
 clear htb HI
 have r15:=(World.rowIs_alloc w11 _ 49 _ (zDQ (.int .i64 X.k) (.slice p.a1 X.nl.length p.c1) (.slice p.a2 X.ns.length p.c2) (.slice p.a3 X.ss.length p.c3))).alloc (.cells #[.int .i64 0,.slice none 0 0,.slice none 0 0,.slice none 0 0] 49)
 have r16:=World.rowIs_alloc (w11.alloc (.cells #[.int .i64 X.k,.slice p.a1 X.nl.length p.c1,.slice p.a2 X.ns.length p.c2,.slice p.a3 X.ss.length p.c3] 49)) _ 49 _ (zDQ (.int .i64 0) (.slice none 0 0) (.slice none 0 0) (.slice none 0 0))
 have JW:=zA1 (zA1 (Below.refl _ w11) (.cells #[.int .i64 X.k,.slice p.a1 X.nl.length p.c1,.slice p.a2 X.ns.length p.c2,.slice p.a3 X.ss.length p.c3] 49)) (.cells #[.int .i64 0,.slice none 0 0,.slice none 0 0,.slice none 0 0] 49)
 rw[show (w11.alloc (.cells #[.int .i64 X.k,.slice p.a1 X.nl.length p.c1,.slice p.a2 X.ns.length p.c2,.slice p.a3 X.ss.length p.c3] 49)).heap.size=w11.heap.size+1 by simp] at r16
 obtain⟨B16,Dg⟩:∃b,w11.heap.size+1=b:=⟨_,rfl⟩
 obtain⟨B15,Dh⟩:∃b,w11.heap.size=b:=⟨_,rfl⟩
 obtain⟨W,hW⟩:∃W,(w11.alloc (.cells #[.int .i64 X.k,.slice p.a1 X.nl.length p.c1,.slice p.a2 X.ns.length p.c2,.slice p.a3 X.ss.length p.c3] 49)).alloc (.cells #[.int .i64 0,.slice none 0 0,.slice none 0 0,.slice none 0 0] 49)=W:=⟨_,rfl⟩
 rw[hW] at r15 r16 JW
 rw[Dg] at r16
 rw[Dh] at r15
 rw[Dg,Dh,hW]
 have Ky:Hid (W.rowIs B15 49 4 (zGA (.int .i64 X.k) (.slice p.a1 X.nl.length p.c1) (.slice p.a2 X.ns.length p.c2) (.slice p.a3 X.ss.length p.c3))):=r15
 have Dp:Hid (W.rowIs B16 49 4 (zGA (.int .i64 0) (.slice none 0 0) (.slice none 0 0) (.slice none 0 0))):=r16
 have QV:=zA3 JW
 have QX:Hid (B15=w11.heap.size/\B16=w11.heap.size+1):=⟨Dh.symm,Dg.symm⟩
 clear r15 r16 JW Dh Dg hW
 go_cut[89] (fun s wx=>s=.bool (!tb)/\wx=W)
 case first=>
  rcases zA0 HT with ⟨rfl,k,rfl,hX,hk,rfl⟩|⟨rfl,hh,rfl,rfl⟩
  ·have g0:¬(k:Int)<0:=by omega
   have g1:¬(n:Int)<=(k:Int):=by omega
   clear hX hk
   go_wp2
   go_meet
   exact⟨rfl,rfl⟩
  ·by_cases h0:i<0
   ·clear hh
    go_wp2
    go_meet
    exact⟨rfl,rfl⟩
   ·have h2:(n:Int)<=i:=by omega
    clear hh
    go_wp2
    go_meet
    exact⟨rfl,rfl⟩
 case rest=>
 obtain⟨rfl,qV⟩:=hcut
 rw[qV]
 clear qV
 go_upto_if 89 with fail
 go_cut[14] (fun g wx=>g=.int .i64 ec/\wx=W)
 case first=>
  rcases zA0 HT with ⟨rfl,k,rfl,hX,hk,rfl⟩|⟨rfl,hh,rfl,rfl⟩
  ·clear hX hk
   go_wp2
   go_meet
   exact⟨rfl,rfl⟩
  ·clear hh
   go_wp2
   go_meet
   exact⟨rfl,rfl⟩
 case rest=>
 obtain⟨rfl,qV⟩:=hcut
 rw[qV]
 clear qV
 have htb:=zA0 HTB
 go_upto_if 91 with fail
 clear htb
 go_cut[] (fun wx=>∃q:Sl,Hid (wx.rowIs B15 49 4 (zGA (.int .i64 X.k) (.slice p.a1 X.nl.length p.c1) (.slice p.a2 X.ns.length p.c2) (.slice p.a3 X.ss.length p.c3)))/\Hid (wx.rowIs B16 49 4 (zGA (.int .i64 X.k) (.slice q.a1 X.nl.length q.c1) (.slice q.a2 X.ns.length q.c2) (.slice q.a3 X.ss.length q.c3)))/\Hid (zAi wx X q)/\Hid (Below w11.heap.size w11 wx))
 case first=>
  rcases zA0 HT with ⟨rfl,k,rfl,hX,hk,rfl⟩|⟨rfl,hh,rfl,rfl⟩
  ·have GW:=zA0 Dx
   have hd:∃d,Cs[k]?=some d/\d.1=X:=by
    have h1:(Cs.map Prod.fst)[k]?=some X:=by rw[zA0 HX];exact hX
    rw[List.getElem?_map] at h1
    obtain⟨d,hd,e⟩:=Option.map_eq_some_iff.1 h1
    exact⟨d,hd,e⟩
   obtain⟨d,hd,DX⟩:=hd
   have ZZ:=GW.col hd
   rw[DX] at ZZ
   have Gn:=GW.frm d (List.mem_of_getElem? hd)
   rw[DX] at Gn
   have YW:=GW.fit d (List.mem_of_getElem? hd)
   rw[DX] at YW
   have Tk:((zBk Cs).map (Value.int .i64))[k]?=some (.int .i64 X.k):=by simp[zBk,hd,DX]
   have HBK:Hid (Below w1.heap.size w1 W):=zA2 (zA0 DF) (zA0 QV)
   obtain⟨bk,ok,rfl,q0⟩:=zDT ((zA0 Yt).later (zA0 HBK)) Tk
   have ikn:(k:Int)<(n:Int):=by omega
   have K18:Hid (∀W',Below W.heap.size W W'->Calls Tryz.prog 18 #[.slice ar rows cr,.int .i64 (k:Int)] W' fun e w'=>∃a' c',e=.returned (.slice a' rows c')/\zAR w' a' (zAD X)/\Below W'.heap.size W' w'):=fun W' Tp=>by
    have:=zPi ar cr k (zAn Cs) W' (by rw[zA0 JG];exact Yp) (by omega) (fun r hr=>by rw[(zFh GW hr).1,zA0 qQ];exact hk) (((zA0 qd).later (zA0 HBK)).later Tp)
    rw[zA0 JG] at this
    refine this.mono ?_
    rintro e w' ⟨a',c',rfl,h1,h2⟩
    rw[ZZ] at h1
    exact⟨a',c',by rw[zA0 JG],h1,h2⟩
   have K17:Hid (∀W' a' c',zAR W' a' (zAD X)->Calls Tryz.prog 17 #[.int .i64 X.k,.slice a' rows c'] W' fun e w'=>∃q:Sl,e=.returned (.tuple #[.agg #[.int .i64 X.k,.slice q.a1 X.nl.length q.c1,.slice q.a2 X.ns.length q.c2,.slice q.a3 X.ss.length q.c3],.int .i64 0])/\zAi w' X q/\zBb W'.heap.size q/\Below W'.heap.size W' w'):=fun W' a' c' ha=>by
    have:=zGp a' c' X.k (zAD X) W' (by rw[YW.vlen];omega) ha
    rw[Gn,YW.vlen] at this
    exact this
   have SS:(fun w':World=>w'.cell? ⟨bk,ok+k,none⟩=some (.int .i64 X.k)) W.drew:=q0
   have Ku:Hid (∀W',Below W.drew.heap.size W.drew W'->W'.cell? ⟨bk,ok+k,none⟩=some (.int .i64 X.k)):=fun W' Tp=>cell_later Tp SS
   have HBD:Hid (Below W.heap.size W W.drew):=(Below.refl _ _).drew
   clear hX hk GW hd DX ZZ Gn YW Tk q0
   go_upto_region 17 with fail
   refine wp_region_noPanic ?_
   refine zAu (S:=fun w':World=>w'.cell? ⟨bk,ok+k,none⟩=some (.int .i64 X.k)) (k:=11) (by kernel_rfl) ?_
   change zJ2 _ _ _ _ _ _ _ _ _ W.drew
   refine zA6 (i:=0) (v:=(.slice (some ⟨bk,ok,none⟩) n ck)) [2,3,7,8,9,11] rfl (fun _ _ _ h=>h) (Or.inl ⟨by rfl,fun w' hSw=>?_⟩) SS ?_
   ·dsimp only at hSw;go_simp
   try simp only[Act.put,zAI,zAH,zAG]
   refine zA6 (i:=1) (v:=(.int .i64 (k:Int))) [2,3,7,8,9,11] rfl (fun _ _ _ h=>h) (Or.inl ⟨by rfl,fun w' hSw=>?_⟩) SS ?_
   ·dsimp only at hSw;go_simp
   try simp only[Act.put,zAI,zAH,zAG]
   refine zA6 (i:=2) (v:=(.pointer (some ⟨bk,ok+k,none⟩))) [3,7,8,9,11] rfl (fun _ _ _ h=>h) (Or.inl ⟨by rfl,fun w' hSw=>?_⟩) SS ?_
   ·dsimp only at hSw;go_simp
   try simp only[Act.put,zAI,zAH,zAG]
   refine zA6 (i:=3) (v:=(.int .i64 X.k)) [7,8,9,11] rfl (fun _ _ _ h=>h) (Or.inl ⟨by rfl,fun w' hSw=>?_⟩) SS ?_
   ·dsimp only at hSw;go_simp
   try simp only[Act.put,zAI,zAH,zAG]
   refine zA6 (i:=4) (v:=(.slice ar rows cr)) [6,7,8,9,11] rfl (fun _ _ _ h=>h) (Or.inl ⟨by rfl,fun w' hSw=>?_⟩) SS ?_
   ·dsimp only at hSw;go_simp
   try simp only[Act.put,zAI,zAH,zAG]
   refine zA6 (i:=5) (v:=(.int .i64 (k:Int))) [6,7,8,9,11] rfl (fun _ _ _ h=>h) (Or.inl ⟨by rfl,fun w' hSw=>?_⟩) SS ?_
   ·dsimp only at hSw;go_simp
   try simp only[Act.put,zAI,zAH,zAG]
   refine zA7 (i:=6) (by kernel_rfl) ?_
   refine zA4 rfl (by rfl) fun K hK=>?_
   go_simp
   refine(zA0 K18 W.drew (zA0 HBD)).mono ?_
   rintro e w12 ⟨a',c',rfl,hr12,FT⟩
   have DE:=zA3 FT
   have HR12:=zA3 hr12
   have SS2:=zA0 Ku _ FT
   clear FT hr12
   go_simp
   refine zA0 hK _ _ ⟨fun _=>SS2,?_⟩
   clear hK K
   refine zA7 (i:=7) (by kernel_rfl) ?_
   refine zA4 rfl (by rfl) fun K hK=>?_
   go_simp
   refine(zA0 K17 _ _ _ (zA0 HR12)).mono ?_
   rintro e w13 ⟨q,rfl,hv13,hf13,Ga⟩
   have SS3:=cell_later Ga SS2
   have qU:=zA3 (zA2 (zA0 DE) Ga)
   have HBV:=zA3 (And.intro hv13 hf13)
   have hsz13:Hid (B16<w12.heap.size):=by have:=(zA0 DE).size;have h3:=(zA0 Dp).lt;show _<_;have h4:W.drew.heap.size=W.heap.size:=rfl;omega
   clear Ga hv13 hf13 SS SS2 Ku
   go_simp
   refine zA0 hK _ _ ⟨fun _=>SS3,?_⟩
   clear hK K
   refine zA7 (i:=8) (by kernel_rfl) ?_
   refine zA4 rfl (by rfl) fun K hK=>?_
   go_simp
   refine zA0 hK _ _ ⟨fun _=>SS3,?_⟩
   clear hK K
   refine zA6 (i:=9) (v:=(.agg #[.int .i64 X.k,.slice q.a1 X.nl.length q.c1,.slice q.a2 X.ns.length q.c2,.slice q.a3 X.ss.length q.c3])) [11] rfl (fun _ _ _ h=>h) (Or.inl ⟨by rfl,fun w' hSw=>?_⟩) SS3 ?_
   ·dsimp only at hSw;go_simp
   try simp only[Act.put,zAI,zAH,zAG]
   have KS:=zA3 (zA5 (zA0 Dp).drew (zA0 qU))
   have HE15:Hid (∀u v x y,((((w13.setCell ⟨B16,0,none⟩ u).setCell ⟨B16,1,none⟩ v).setCell ⟨B16,2,none⟩ x).setCell ⟨B16,3,none⟩ y).rowIs B15 49 4 (zGA (.int .i64 X.k) (.slice p.a1 X.nl.length p.c1) (.slice p.a2 X.ns.length p.c2) (.slice p.a3 X.ss.length p.c3))):=fun u v x y=>by
    have Hg:B15≠B16:=by have:=zA0 QX;omega
    exact((((zA5 (zA0 Ky).drew (zA0 qU)).setOther Hg _).setOther Hg _).setOther Hg _).setOther Hg _
   have HEV:Hid (∀u v x y,zAi ((((w13.setCell ⟨B16,0,none⟩ u).setCell ⟨B16,1,none⟩ v).setCell ⟨B16,2,none⟩ x).setCell ⟨B16,3,none⟩ y) X q):=fun u v x y=>zDB (zA0 HBV).1 (zA0 HBV).2 fun i hi _=>zOT w13 B16 i u v x y (by have:=zA0 hsz13;omega)
   have HEB:Hid (∀u v x y,Below w11.heap.size w11 ((((w13.setCell ⟨B16,0,none⟩ u).setCell ⟨B16,1,none⟩ v).setCell ⟨B16,2,none⟩ x).setCell ⟨B16,3,none⟩ y)):=fun u v x y=>by
    have Tn:w11.heap.size<=B16:=by have:=zA0 QX;omega
    exact(((((zA2 (zA0 QV).drew (zA0 qU)).setCell (by simpa using Tn) _).setCell (by simpa using Tn) _).setCell (by simpa using Tn) _).setCell (by simpa using Tn) _)
   obtain⟨m0,m1,m2,m3,f0,f1,f2,f3⟩:=zAk (zA0 KS)
   refine zBF [10,11] (by kernel_rfl) (by simp) ?_
   intro i hi
   simp only[List.mem_cons,List.not_mem_nil,or_false] at hi
   rcases hi with rfl|rfl
   ·refine zA4 rfl (by rfl) fun K hK=>?_
    go_simp
    refine zA0 hK _ _ ⟨fun _=>SS3,?_⟩
    clear hK K
    refine zA7 (i:=11) (by kernel_rfl) ?_
    refine zA4 rfl (by rfl) fun K hK=>?_
    go_simp
    refine zA0 hK _ _ ⟨fun hh=>absurd hh (by decide),?_⟩
    clear hK K
    refine zAl (by kernel_rfl) ?_ _
    refine NoPanic.normal ?_
    clear SS3 m0 m1 m2 m3 f0 f1 f2 f3
    go_wp2
    go_meet
    exact⟨q,zA0 HE15 _ _ _ _,zM7 (zA0 KS) _ _ _ _,zA0 HEV _ _ _ _,zA0 HEB _ _ _ _⟩
   ·refine zA4 rfl (by rfl) fun K hK=>?_
    go_simp
    refine zA0 hK _ _ ⟨fun hh=>absurd hh (by decide),?_⟩
    clear hK K
    refine zA7 (i:=10) (by kernel_rfl) ?_
    refine zA4 rfl (by rfl) fun K hK=>?_
    go_simp
    refine zA0 hK _ _ ⟨fun hh=>absurd hh (by decide),?_⟩
    clear hK K
    refine zAl (by kernel_rfl) ?_ _
    refine NoPanic.normal ?_
    clear SS3 m0 m1 m2 m3 f0 f1 f2 f3
    go_wp2
    go_meet
    exact⟨q,zA0 HE15 _ _ _ _,zM7 (zA0 KS) _ _ _ _,zA0 HEV _ _ _ _,zA0 HEB _ _ _ _⟩
  ·go_wp2
   go_meet
   exact⟨⟨none,0,none,0,none,0⟩,Ky,Dp,zAi.zero _,QV⟩
 case rest=>
 obtain⟨q,HQ15,HQ16,HVQ,YI⟩:=hcut
 obtain⟨m0,m1,m2,m3,f0,f1,f2,f3⟩:=zAk (zA0 HQ15)
 obtain⟨n0,n1,n2,n3,e0,e1,e2,e3⟩:=zAk (zA0 HQ16)
 have K19':=zA3 (zA0 K19 wc p q ((zA0 HV11).later (zA0 YI)) (zA0 HVQ))
 have K20':Hid (∀W,Below w1.heap.size w1 W->Calls Tryz.prog 20 #[.string s,.slice a cs.length cp] W fun e w'=>∃v f,e=.returned (.tuple #[v,.int .i64 f])/\Hid ((cs.any (zGM n)=true/\v=.slice none 0 0/\f=1)∨(cs.any (zGM n)=false/\f=0/\∃a c,v=.slice a rows c/\zCY w' a (zDX (zAn Cs) cs)))/\Below W.heap.size W w'):=fun W hW=>by
  refine(zA0 K20 W (zA2 (zA0 Qa) hW)).mono ?_
  intro e w' hq
  rw[<-zA0 HX] at hq
  have hc:=zA0 qQ
  rcases zOo (zA0 Dx) (by omega) hq with ⟨g1,rfl,g2⟩|⟨g1,a,c,rfl,g2,g3⟩
  ·rw[hc] at g1
   exact⟨_,_,rfl,.inl ⟨g1,rfl,rfl⟩,g2⟩
  ·rw[hc] at g1
   exact⟨_,_,rfl,.inr ⟨g1,rfl,a,c,rfl,g2⟩,g3⟩
 go_upto_region 20 with (first
  | (go_at_call 7;refine(zDu _ _).mono ?_;rintro _ w9 ⟨rfl,h9⟩;rw[h9];clear h9)
  | (go_at_call 19;refine(zA0 K19').mono ?_;rintro _ w14 ⟨rfl,hb⟩;have DC:=zA3 (zA2 (zA2 (zA0 DF) (zA0 YI)) hb);clear hb))
 clear m0 m1 m2 m3 f0 f1 f2 f3 n0 n1 n2 n3 e0 e1 e2 e3 K19 K19' K20 HT HTB Ky Dp HQ15 HQ16 HVQ HV11 K16 K8 K9 K10 QV QX
 go_upto_region 21 with (go_at_call 20;refine(zA0 K20' _ (zA0 DC)).mono ?_;rintro _ w15 ⟨v15,f15,rfl,hq15,hb⟩;have HB15:=zA3 (zA2 (zA0 DC) hb);have KU:=zA3 (zA2 (zA0 Qa) (zA0 HB15));clear hb)
 go_wp2_with fail
 go_loop[14,122] (fun g s=>∃j:Nat,j<=cs.length/\g=.int .i64 (gA n cs j)/\s=.int .i64 (j:Int)) (fun _ s=>cs.length-(intOf s).toNat)
 case atStart=>exact⟨0,Nat.zero_le _,rfl,rfl⟩
 case round=>
  obtain⟨j,hj,rfl,rfl⟩:=hrel
  by_cases h8:j<cs.length
  ·have i8:(j:Int)<(cs.length:Int):=by omega
   obtain⟨c,hc⟩:∃c,cs[j]?=some c:=⟨_,zAf h8⟩
   obtain⟨b,o,rfl,q0⟩:=zDT ((zA0 HA).later (zA0 KU)) (show (cs.map (Value.int .i64))[j]?=some (.int .i64 c) by simp[hc])
   have HG:=zA3 (zTW (n:=n) hc)
   have hg:=zUJ n cs j
   have HGJ:Hid (∃g,gA n cs j=g):=⟨_,rfl⟩
   generalize gA n cs j=g at *
   clear hc HGJ
   rcases hg with rfl|rfl
   ·by_cases c0:c<0
    ·have HN:Hid (gA n cs (j+1)=1):=by
      show _=_
      rw[zA0 HG,if_pos (.inr (by unfold zGM;simp[c0]))]
     clear HG
     go_wp2
     exact⟨⟨j+1,by omega,by rw[zA0 HN],by go_num⟩,by simp[intOf];omega⟩
    ·by_cases c1:(n:Int)<=c
     ·have HN:Hid (gA n cs (j+1)=1):=by
       show _=_
       rw[zA0 HG,if_pos (.inr (by unfold zGM;simp[c1]))]
      clear HG
      go_wp2
      exact⟨⟨j+1,by omega,by rw[zA0 HN],by go_num⟩,by simp[intOf];omega⟩
     ·have HN:Hid (gA n cs (j+1)=0):=by
       show _=_
       rw[zA0 HG,if_neg]
       rintro(h|h)
       ·cases h
       ·unfold zGM at h;simp at h;omega
      clear HG
      go_wp2
      exact⟨⟨j+1,by omega,by rw[zA0 HN],by go_num⟩,by simp[intOf];omega⟩
   ·have HN:Hid (gA n cs (j+1)=1):=by
     show _=_
     rw[zA0 HG,if_pos (.inl rfl)]
    clear HG
    go_wp2
    exact⟨⟨j+1,by omega,by rw[zA0 HN],by go_num⟩,by simp[intOf];omega⟩
  ·have i8:¬(j:Int)<(cs.length:Int):=by omega
   have Jx:j=cs.length:=by omega
   have hga:gA n cs j=if cs.any (zGM n) then 1 else 0:=by rw[Jx,gA,List.take_length]
   rcases zA0 hq15 with ⟨GZ,rfl,rfl⟩|⟨GZ,rfl,aw,cw,rfl,DJ⟩
   ·rw[GZ,if_pos rfl] at hga
    have K21:Hid (∀W,Calls Tryz.prog 21 #[.slice none 0 0,.slice none 0 0] W fun e w'=>e=.returned (.bool true)/\Below W.heap.size W w'):=fun W=>zDl none none 0 0 [] W (by unfold maxLen;simp) (by simp) (.inl rfl) (.inl rfl)
    rw[hga]
    clear hga GZ Jx
    go_wp2
    go_loop[18,21] (fun v s=>v=.slice none 0 0/\s=.int .i64 0) (fun _ _=>0)
    case atStart=>exact⟨rfl,rfl⟩
    case round=>
     obtain⟨rfl,rfl⟩:=hrel
     go_wp2_with (first
      | (go_at_call 7;refine(zDu _ _).mono ?_;rintro _ w9 ⟨rfl,h9⟩;rw[h9];clear h9)
      | (go_at_call 21;refine(zA0 K21 _).mono ?_;rintro _ w16 ⟨rfl,hb⟩;have KT:=zA3 (zA2 (zA0 KU) hb);clear hb))
     go_ret
     exact⟨rfl,zA0 KT⟩
   ·rw[GZ,if_neg (by simp)] at hga
    rw[hga]
    have HANY:=zA3 GZ
    have YY:=zA3 DJ
    clear hga GZ Jx DJ hq15
    go_wp2
    go_loopw[18,21] (fun v s wr=>∃(k:Nat) (us:List Value),k<=rows/\s=.int .i64 (k:Int)/\Hid (zNf w15 wr v ((zDX (zAn Cs) cs).take k) us)) (fun _ s _=>rows-(intOf s).toNat)
    case atStart=>exact⟨0,[],Nat.zero_le _,rfl,zNf.nil (Below.refl _ _)⟩
    case round=>
     obtain⟨k,us,hk,rfl,S⟩:=hrel
     by_cases hkr:k<rows
     ·have ikr:(k:Int)<(rows:Int):=by omega
      obtain⟨r,hr⟩:∃r,(zAn Cs)[k]?=some r:=⟨_,zAf (by rw[zA0 JG];exact hkr)⟩
      have Yn:r.length=n:=by rw[(zFh (zA0 Dx) (List.mem_of_getElem? hr)).1,zA0 qQ]
      obtain⟨row,Hk⟩:∃row,(cs.map fun c=>r.getD c.toNat .null)=row:=⟨_,rfl⟩
      have Qf:=zA3 Hk
      have DK:row.length=cs.length:=by rw[<-Hk,List.length_map]
      have JZ:=zA3 DK
      have HRK:=zA3 hr
      have yU:=zA3 Yn
      have GS:((zDX (zAn Cs) cs).take k).length=k:=by rw[List.length_take,zDX,List.length_map,zA0 JG];omega
      have ZS:=zA3 GS
      have JY:Hid ((zDX (zAn Cs) cs).take (k+1)=(zDX (zAn Cs) cs).take k++[row]):=by
       have h1:(zDX (zAn Cs) cs)[k]?=some row:=by rw[zDX,List.getElem?_map,hr];simp[<-Hk]
       obtain⟨h2,h3⟩:=zAL h1
       show _=_
       rw[List.take_succ_eq_append_getElem h2,h3]
      clear hr Yn Hk DK GS
      go_wp2
      obtain⟨W1,rfl⟩:∃W1,W1=wr:=⟨_,rfl⟩
      go_loopw[22,151] (fun l s wr=>∃j:Nat,j<=cs.length/\s=.int .i64 (j:Int)/\zAV wr W1.heap.size l (row.take j)/\Below W1.heap.size W1 wr) (fun _ s _=>cs.length-(intOf s).toNat)
      case atStart=>exact⟨0,Nat.zero_le _,rfl,World.ownsRow_nil _ _ _ _,Below.refl _ _⟩
      case round=>
       obtain⟨j,hj,rfl,ho,hb⟩:=hrel
       have HBJ:Hid (Below w1.heap.size w1 wr):=zA2 (zA2 (zA0 HB15) (zA0 S).bel) hb
       by_cases h9:j<cs.length
       ·have i9:(j:Int)<(cs.length:Int):=by omega
        obtain⟨c,hc⟩:∃c,cs[j]?=some c:=⟨_,zAf h9⟩
        have Zy:zGM n c=false:=by
         have:=List.any_eq_false.1 (zA0 HANY) c (List.mem_of_getElem? hc)
         simpa using this
        obtain⟨z0,z1⟩:0<=c/\c<(n:Int):=by
         unfold zGM at Zy
         simp only[Bool.or_eq_false_iff,decide_eq_false_iff_not] at Zy
         omega
        obtain⟨m,rfl⟩:=Int.eq_ofNat_of_zero_le z0
        obtain⟨b,o,rfl,q0⟩:=zDT ((zA0 HA).later (zA2 (zA0 Qa) (zA0 HBJ))) (show (cs.map (Value.int .i64))[j]?=some (.int .i64 (m:Int)) by simp[hc])
        obtain⟨rb,ro,rfl,ra,rc,c0,QB⟩:=zGK ((zA0 qd).later (zA0 HBJ)) (zA0 HRK)
        have DR:m<r.length:=by rw[zA0 yU];omega
        obtain⟨x,JQ⟩:∃x,r[m]?=some x:=⟨_,zAf DR⟩
        obtain⟨rb2,ro2,rfl,d0,d1,d2⟩:=zIJ QB JQ
        have i2:(m:Int)<(r.length:Int):=by omega
        have hrj:row[j]?=some x:=by rw[<-zA0 Qf,List.getElem?_map,hc];simp[JQ]
        have HXX:=zA3 (take_one hrj)
        have Hf:(row.take j).length=j:=by rw[List.length_take,zA0 JZ];omega
        have Qg:=zA3 Hf
        have HO:=zA3 ho
        have HB:=zA3 hb
        have iz:(0:Int)<=(m:Int):=by omega
        clear hc JQ QB Hf ho hb Zy hrj z0 z1
        go_wp2_with (at_builtin;refine wpList_append_own_at _ rfl (.tmp 155) (.tmp 163) 37 rfl W1.heap.size 59 i4 (.agg #[.int .i64 0,.int .i64 0,.string ⟨#[]⟩]) 3 32 Tryz.underlying37 Qd z40 z41 z42 rfl (by decide) _ _ _ rfl (World.ownsRow.alloc (zA0 HO) _) ⟨wr.heap.size,0,none⟩ 1 1 (c3 x) rfl rfl (zAy wr x) (zBY _) (by rw[zA0 Qg];unfold maxLen;omega) (by rw[zA0 Qg];omega) (by have:=(zA0 HB).size;simp;omega) ?_;intro v1 w3 Hc Ha _ Hl;have Ya:=zB9 Hc;have Hy:(wr.alloc (.cells #[.int .i64 x.k,.int .i64 x.n,.string x.s] 59)).grownBy w3 u22.ownBlock:=Ha;clear Hc Ha Hl)
        exact⟨⟨j+1,by omega,by go_num,zCf Ya (zA0 HXX).symm,zCT (zA0 HB) (zA0 HO) (Nat.le_refl _) Hy⟩,by simp[intOf];omega⟩
       ·have i9:¬(j:Int)<(cs.length:Int):=by omega
        have Jx:row.take j=row:=List.take_of_length_le (by rw[zA0 JZ];omega)
        rw[Jx] at ho
        have Gn:∀g,u22.ownBlock=some g->W1.heap.size<=g:=fun g hg=>(World.ownsRow.lt ho g hg).1
        obtain⟨a',c',e22,QB⟩:=zBy ho
        rw[e22] at Gn
        have qi:Hid (∀ad,a'=some ad->W1.heap.size<=ad.block):=fun ad e=>Gn ad.block (by rw[e];rfl)
        have QR:=zA3 QB
        have S2:=zA3 ((zA0 S).later hb)
        subst e22
        rw[zA0 JZ]
        have Dy:Hid ([Value.slice a' cs.length c']=[Value.slice a' row.length c']):=by show _=_;rw[zA0 JZ]
        clear Jx ho Gn QB hb
        go_wp2_with (at_builtin;refine wpList_append_own_at _ rfl (.tmp 166) (.tmp 168) 23 rfl w15.heap.size 37 i7 (.slice none 0 0) 1 24 Tryz.underlying23 hi7 z70 z71 z72 rfl (by decide) _ _ _ rfl (World.ownsRow.alloc (zA0 S2).own _) ⟨wr.heap.size,0,none⟩ 1 1 [.slice a' cs.length c'] rfl rfl (cell_one_new _ _ _) (by intro u hu;simp at hu;subst hu;rfl) (by rw[zA0 ZS];unfold maxLen;omega) (by rw[zA0 ZS];omega) (by have:=(zA0 S2).bel.size;simp;omega) ?_;intro v5 w5 Zx YM _ qE)
        rw[zA0 Dy] at Zx
        have S5:=(zA0 S2).app (zA0 QR) (zA0 qi) (fun g hg=>(World.ownsRow.lt (zA0 S).own g hg).2) Zx YM qE
        rw[<-zA0 JY] at S5
        exact⟨⟨k+1,_,by omega,by go_num,S5⟩,by simp[intOf];omega⟩
     ·have ikr:¬(k:Int)<(rows:Int):=by omega
      have Tk:(zDX (zAn Cs) cs).take k=zDX (zAn Cs) cs:=List.take_of_length_le (by rw[zDX,List.length_map,zA0 JG];omega)
      rw[Tk] at S
      have GS:(zDX (zAn Cs) cs).length=rows:=by rw[zDX,List.length_map,zA0 JG]
      obtain⟨av,cv,e18,QB⟩:=(zA0 S).rows
      rw[GS] at e18
      have K21:Hid (Calls Tryz.prog 21 #[.slice aw rows cw,.slice av rows cv] wr fun e w'=>e=.returned (.bool true)/\Below wr.heap.size wr w'):=by
       have:=zDl aw av cw cv (zDX (zAn Cs) cs) wr (by rw[GS];unfold maxLen;omega) (fun r hr=>by
        obtain⟨q,_,rfl⟩:=List.mem_map.1 hr
        rw[List.length_map];unfold maxLen;omega) ((zA0 YY).later (zA0 S).bel) QB
       rw[GS] at this
       exact this
      have KT:=zA3 (zA2 (zA0 KU) (zA0 S).bel)
      subst e18
      clear Tk GS QB
      go_wp2_with (first
       | (go_at_call 7;refine(zDu _ _).mono ?_;rintro _ w9 ⟨rfl,h9⟩;rw[h9];clear h9)
       | (go_at_call 21;refine(zA0 K21).mono ?_;rintro _ w16 ⟨rfl,hb⟩;have HB18:=zA3 (zA2 (zA0 KT) hb);clear hb))
      go_ret
      exact⟨rfl,zA0 HB18⟩
theorem zUF{l:List UInt8}(hl:l.length<=140737488300000)(i:Int)(cs:List Int)(a:Option Addr)(cp:Nat)(w:World)(YN:cs.length<=1048576)(ha:zAp w a (cs.map (Value.int .i64))) :
  Calls Tryz.prog 4 #[.string (bs l),.int .i64 i,.slice a cs.length cp] w fun e w'=>e=.returned (.bool true)/\Below w.heap.size w w':=by
 by_cases h:∃Xs ps,Seg l Xs ps
 ·obtain⟨Xs,ps,h⟩:=h
  by_cases hi:0<=i/\i<(Xs.length:Int)
  ·obtain⟨k,rfl⟩:=Int.eq_ofNat_of_zero_le hi.1
   exact zPj hl h (k:Int) (X:=Xs[k]'(by omega)) (ec:=0) (.inl ⟨k,rfl,zAf (by omega),rfl⟩) cs a cp w YN ha
  ·exact zPj hl h i (X:=.zero) (ec:=1) (.inr ⟨by omega,rfl,rfl⟩) cs a cp w YN ha
 ·exact zUG hl (fun Xs ps hs=>h ⟨Xs,ps,hs⟩) i cs a cp w YN ha
end Go.Proofs.YtekgpapophibcaaGreat

import Derived.Test.YtekgpapophibcaaGreatRefH
import Derived.Test.YtekgpapophibcaaGreatRxD
import Derived.Test.YtekgpapophibcaaGreatSgF
import Derived.Test.YtekgpapophibcaaGreatRyT
import Derived.Test.YtekgpapophibcaaGreatSgN
set_option linter.unusedSimpArgs false
set_option linter.unusedVariables false
set_option maxHeartbeats 2000000
set_option maxRecDepth 100000
namespace Go.Proofs.YtekgpapophibcaaGreat
open Go.RowKit Go.Sort
theorem zPY:∀(ys:List Val) (m:Val),m.k≠0->(∀y∈ys,y.k≠0)->ys.foldl zJ0 m=zBH m ys
 | [],m,_,_=>rfl
 | y::ys,m,hm,h=>by
  have hy:=h y (List.mem_cons_self ..)
  have e:zJ0 m y=if zAh y m<0 then y else m:=by
   unfold zJ0
   have:(m.k == 0)=false:=by simpa using hm
   rw[this]
   by_cases hh:zAh y m<0<;>simp[hh]
  show ys.foldl zJ0 (zJ0 m y)=zBH (if zAh y m<0 then y else m) ys
  rw[e]
  refine zPY ys _ ?_ (fun z hz=>h z (by simp[hz]))
  split
  ·exact hy
  ·exact hm
theorem zJp:∀(ys:List Val) (m:Val),ys.foldl zDE m∈m::ys/\∀y∈m::ys,zAh y (ys.foldl zDE m)<=0
 | [],m=>⟨by simp,fun y hy=>by simp at hy;subst hy;rw[List.foldl_nil,zC5];omega⟩
 | z::ys,m=>by
  have e:(z::ys).foldl zDE m=ys.foldl zDE (zDE m z):=rfl
  rw[e]
  obtain⟨h1,h2⟩:=zJp ys (zDE m z)
  have YT:=h2 _ (List.mem_cons_self ..)
  have hc:(0<zAh z m/\zDE m z=z)∨(¬0<zAh z m/\zDE m z=m):=by
   unfold zDE
   by_cases h:0<zAh z m
   ·exact .inl ⟨h,by simp[h]⟩
   ·exact .inr ⟨h,by simp[h]⟩
  rcases hc with ⟨hz,e2⟩|⟨hz,e2⟩
  ·rw[e2] at h1 h2 YT ⊢
   have hmz:zAh m z<=0:=by have:=zBA m z;omega
   refine⟨by simp only[List.mem_cons] at h1 ⊢;rcases h1 with h|h<;>simp[h],fun y hy=>?_⟩
   rcases List.mem_cons.1 hy with rfl|hy
   ·exact zBz hmz YT
   ·rcases List.mem_cons.1 hy with rfl|hy
    ·exact YT
    ·exact h2 y (by simp[hy])
  ·rw[e2] at h1 h2 YT ⊢
   refine⟨by simp only[List.mem_cons] at h1 ⊢;rcases h1 with h|h<;>simp[h],fun y hy=>?_⟩
   rcases List.mem_cons.1 hy with rfl|hy
   ·exact YT
   ·rcases List.mem_cons.1 hy with rfl|hy
    ·exact zBz (by omega) YT
    ·exact h2 y (by simp[hy])
theorem zPZ(y:Val):zJ0 .null y=y:=by simp[zJ0,Val.null]
theorem zNA{y:Val}(hc:zA8 y=y)(hk:y.k≠0):zDE .null y=y:=by
 have:0<zAh y .null:=by
  rcases zDH hc with rfl|⟨n,rfl⟩|⟨s,rfl⟩
  ·exact absurd rfl hk
  ·show 0<orI (zEQ 1 0) _ _
   rw[show zEQ 1 0=1 from rfl];unfold orI;simp
  ·show 0<orI (zEQ 2 0) _ _
   rw[show zEQ 2 0=1 from rfl];unfold orI;simp
 simp[zDE,this]
theorem zP6{x y:Val}(hx:zA8 x=x)(hy:zA8 y=y)(h1:zAh x y<=0)(h2:zAh y x<=0):x=y:=by
 have h3:=zBA x y
 have:=zJc (x:=x) (y:=y) (by omega)
 rw[hx,hy] at this
 exact this
theorem zHk:∀(xs:List Val),(xs.filter (fun x=>x.k == 0)).length+(zAA xs).length=xs.length
 | []=>rfl
 | x::xs=>by
  have ih:=zHk xs
  unfold zAA at *
  have hb:(x.k != 0)=!(x.k == 0):=rfl
  rw[List.filter_cons,List.filter_cons,hb]
  cases h:(x.k == 0)
  ·simp only[Bool.false_eq_true,if_false,Bool.not_false,if_true,List.length_cons];omega
  ·simp only[Bool.not_true,Bool.false_eq_true,if_false,if_true,List.length_cons];omega
theorem zOO{xs S:List Val}(hc:∀x∈xs,zA8 x=x)(hp:S.Perm (zAA xs))(hr:zBe S) :
  (S=[]->(zBR xs xs.length).1=.null/\(zBR xs xs.length).2.1=.null)/\(∀(h:0<S.length),(zBR xs xs.length).1=atL S 0/\(zBR xs xs.length).2.1=atL S (S.length-1))/\(zBR xs xs.length).2.2=xs.length-(zAA xs).length:=by
 unfold zBR
 rw[List.take_length]
 have hs:∀y∈zAA xs,zA8 y=y/\y.k≠0:=fun y hy=>by
  obtain⟨h1,h2⟩:=List.mem_filter.1 hy
  exact⟨hc y h1,by simpa using h2⟩
 refine⟨fun e=>?_,fun h=>?_,?_⟩
 ·subst e
  have:zAA xs=[]:=List.Perm.nil_eq hp |>.symm
  rw[this];exact⟨rfl,rfl⟩
 ·have h0:=zB0 h
  have hl:=zB0 (L:=S) (k:=S.length-1) (by omega)
  cases qr:zAA xs with
  | nil=>rw[qr] at hp;have:=hp.length_eq;simp at this;rw[this] at h;simp at h
  | cons y ys=>
   rw[qr] at hp hs
   have e1:(y::ys).foldl zJ0 .null=zBH y ys:=by
    show ys.foldl zJ0 (zJ0 .null y)=_
    rw[zPZ]
    exact zPY ys y (hs y (by simp)).2 (fun z hz=>(hs z (by simp[hz])).2)
   have e2:(y::ys).foldl zDE .null=ys.foldl zDE y:=by
    show ys.foldl zDE (zDE .null y)=_
    rw[zNA (hs y (by simp)).1 (hs y (by simp)).2]
   obtain⟨m1,m2⟩:=zIX ys y
   obtain⟨g1,g2⟩:=zJp ys y
   have c0:=List.mem_of_getElem? h0
   have cl:=List.mem_of_getElem? hl
   have key:∀z∈y::ys,∃i,S[i]?=some z:=fun z hz=>List.mem_iff_getElem?.1 (hp.mem_iff.2 hz)
   rw[e1,e2]
   refine⟨zP6 (hs _ m1).1 (hs _ (hp.mem_iff.1 c0)).1 (m2 _ (hp.mem_iff.1 c0)) ?_,zP6 (hs _ g1).1 (hs _ (hp.mem_iff.1 cl)).1 ?_ (g2 _ (hp.mem_iff.1 cl))⟩
   ·obtain⟨i,hi⟩:=key _ m1
    exact hr.at (Nat.zero_le _) h0 hi
   ·obtain⟨i,hi⟩:=key _ g1
    have:=(zAL hi).1
    exact hr.at (by omega) hi hl
 ·have:=zHk xs
  simp only
  omega
theorem zQi{S:List Val}(hc:∀x∈S,zA8 x=x):(S=[]->zBx S S.length=[])/\(0<S.length->0<(zBx S S.length).length/\(zBx S S.length)[0]?=some (atL S 0)/\(zBx S S.length)[(zBx S S.length).length-1]?=some (atL S (S.length-1))):=by
 refine⟨fun e=>by subst e;rfl,fun h=>?_⟩
 rw[zGZ hc]
 unfold zCH
 have h1:=zHA S h (S.length-1) (by omega)
 have h2:=zH9 S (S.length-1) (by omega)
 refine⟨(zAL h1).1,h1,?_⟩
 rw[List.getLast?_eq_getElem?] at h2
 exact h2
theorem zJR(X:Vc)(p:Sl)(w:World)(hs:small X)(hp:zAi w X p){xs:List Val}(hx:zAD X=xs)(hc:∀x∈xs,zA8 x=x)(hl:xs.length<=4096) :
  Calls Tryz.prog 35 #[zCC X p] w fun e w'=>e=.returned (.tuple #[(zBR xs xs.length).1.v,(zBR xs xs.length).2.1.v,.int .i64 ((zBR xs xs.length).2.2:Nat)])/\Below w.heap.size w w':=by
 have HV:Hid (∀W,Below w.heap.size w W->Calls Tryz.prog 64 #[.agg #[.int .i64 X.k,.slice p.a1 X.nl.length p.c1,.slice p.a2 X.ns.length p.c2,.slice p.a3 X.ss.length p.c3]] W fun e w'=>∃v,e=.returned v/\zAV w' W.heap.size v xs/\Below W.heap.size W w'):=fun W hW=>by rw[<-hx];exact zCJ X p W hs (hp.later hW)
 obtain⟨L,G,N,hR⟩:∃L G N,zBR xs xs.length=(L,G,N):=⟨_,_,_,rfl⟩
 have HSP:=zA3 (fun S (hp:S.Perm (zAA xs)) (hr:zBe S)=>zOO hc hp hr)
 rw[hR] at HSP ⊢
 have hsl:(zAA xs).length<=xs.length:=List.length_filter_le _ _
 have HC:Hid (∀S:List Val,S.Perm (zAA xs)->∀x∈S,zA8 x=x):=fun S hp x hx=>hc x (List.mem_filter.1 (hp.mem_iff.1 hx)).1
 have QQ:=zA3 (fun W a c (ha:zAR W a xs)=>zDZ a c xs W (by omega) ha)
 have Zr:=zA3 (fun W b v (ha:zAV W b v (zAA xs))=>zD1 b (zAA xs) v W (by omega) ha)
 rw[zAM]
 clear hx hs hp hR hc
 generalize YE:zAA xs=ys at *
 clear YE
 go_enter Tryz.func35,Tryz.ntmps35
 go_upto_region 3 with (first
  | (go_at_call 64;refine(zA0 HV _ (zA1 (zA1 (zA1 (Below.refl _ _) _) _) _)).mono ?_;rintro e w1 ⟨v1,rfl,QU,Hb⟩;obtain⟨a1,c1,rfl,_,_,Hq⟩:=zAC QU)
  | (go_at_call 66;refine(zA0 QQ _ _ _ Hq).mono ?_;rintro e w2 ⟨v2,rfl,Qi,Hh⟩)
  | (go_at_call 65;refine(zA0 Zr _ _ _ Qi).mono ?_;rintro e w3 ⟨S,v3,rfl,HS,Ya,Hz⟩;obtain⟨a3,cc3,rfl,_,_,Qt⟩:=zAC Ya))
 obtain⟨hSp,hSr⟩:=zA0 HS
 obtain⟨s1,s2,s3⟩:=zA0 HSP S hSp hSr
 obtain⟨u1,u2⟩:=zQi (zA0 HC S hSp)
 have Ga:=zA2 (zA2 Hb Hh) Hz
 have hBw:=zAP (zAP (zAP Ga))
 obtain⟨⟨b0,b1,b2⟩,q0,q1,q2⟩:=zBQ (B:=w.heap.size+1+1) (w:=(w.alloc (.cells #[.int .i64 X.k,.slice p.a1 X.nl.length p.c1,.slice p.a2 X.ns.length p.c2,.slice p.a3 X.ss.length p.c3] 49)).alloc zE3) (by simp) rfl Ga
 obtain⟨⟨d0,d1,d2⟩,r0,r1,r2⟩:=zBQ (B:=w.heap.size+1) (w:=w.alloc (.cells #[.int .i64 X.k,.slice p.a1 X.nl.length p.c1,.slice p.a2 X.ns.length p.c2,.slice p.a3 X.ss.length p.c3] 49)) (by simp) rfl (zAP Ga)
 have Kz:=zA3 (Hq.later (zA2 Hh Hz))
 have Fq:∀ad,a3=some ad->w.heap.size+1+1+1<=ad.block:=fun ad e=>by
  subst e
  have h1:=(World.ownsRow.lt Ya ad.block rfl).1
  have h2:=Hb.size
  have h3:=Hh.size
  simp at h2;omega
 have qe:=zA3 Qt
 have QV:=zA3 hBw
 have HBF:=zA3 Ga
 have Gw:=hSp.length_eq
 have Fj:w.heap.size+1+1+1<=w3.heap.size:=by have:=Ga.size;simp at this;omega
 generalize hU:zBx S S.length=U at *
 clear Hb Hh Hz Ga hBw Hq Qt QU Qi Ya HV Zr HSP HS
 by_cases hS:S=[]
 ·obtain⟨e1,e2⟩:=s1 hS
  have eU:=u1 hS
  have eN:N=xs.length:=by rw[hS] at Gw;simp at Gw;omega
  have HE:Hid (L=.null/\G=.null/\N=xs.length):=⟨e1,e2,eN⟩
  subst eU
  clear s1 s2 s3 u1 u2 e1 e2 eN hU hS Gw hSp hSr
  obtain⟨NV,hNV⟩:∃NV,Hid (NV=Val.null):=⟨_,rfl⟩
  have Zb:Hid (∀W,Calls Tryz.prog 62 #[] W fun e w'=>e=.returned NV.v/\Below W.heap.size W w'):=fun W=>by rw[zA0 hNV];exact zGO W
  have HZ:Hid (∀W',Below w3.heap.size w3 W'->((W'.cell? ⟨w.heap.size+1+1,0,none⟩=some (.int .i64 0)/\W'.cell? ⟨w.heap.size+1+1,1,none⟩=some (.int .i64 0)/\W'.cell? ⟨w.heap.size+1+1,2,none⟩=some (.string ⟨#[]⟩))/\(W'.frozen? ⟨w.heap.size+1+1,0,none⟩=false/\W'.frozen? ⟨w.heap.size+1+1,1,none⟩=false/\W'.frozen? ⟨w.heap.size+1+1,2,none⟩=false))/\((W'.cell? ⟨w.heap.size+1,0,none⟩=some (.int .i64 0)/\W'.cell? ⟨w.heap.size+1,1,none⟩=some (.int .i64 0)/\W'.cell? ⟨w.heap.size+1,2,none⟩=some (.string ⟨#[]⟩))/\(W'.frozen? ⟨w.heap.size+1,0,none⟩=false/\W'.frozen? ⟨w.heap.size+1,1,none⟩=false/\W'.frozen? ⟨w.heap.size+1,2,none⟩=false))):=fun W' Tp=>
   ⟨zBQ (B:=w.heap.size+1+1) (w:=(w.alloc (.cells #[.int .i64 X.k,.slice p.a1 X.nl.length p.c1,.slice p.a2 X.ns.length p.c2,.slice p.a3 X.ss.length p.c3] 49)).alloc zE3) (by simp) rfl (zA2 (zA0 HBF) Tp),zBQ (B:=w.heap.size+1) (w:=w.alloc (.cells #[.int .i64 X.k,.slice p.a1 X.nl.length p.c1,.slice p.a2 X.ns.length p.c2,.slice p.a3 X.ss.length p.c3] 49)) (by simp) rfl (zAP (zA2 (zA0 HBF) Tp))⟩
  go_wp2_with (first
   | (go_at_call 62;refine(zA0 Zb _).mono ?_;first | (rintro e w5 ⟨rfl,QO⟩;have Zq:=zA2 Qe QO;rw[Val.open_];obtain⟨⟨⟨b0,b1,b2⟩,q0,q1,q2⟩,⟨d0,d1,d2⟩,r0,r1,r2⟩:=zA0 HZ _ Zq) | (rintro e w4 ⟨rfl,Qe⟩;rw[Val.open_])))
  refine bodyPost_ret (v:=.tuple #[NV.v,NV.v,.int .i64 (xs.length:Int)]) (by simp[results,Tryz.results35,go_sem,Val.v, *]) rfl ⟨?_,?_⟩
  ·obtain⟨e1,e2,e3⟩:=zA0 HE
   rw[e1,e2,e3,zA0 hNV]
  ·exact put3 (put3 (zA2 (zA0 QV) Zq) (by omega) _ _ _) (by omega) _ _ _
 ·have Ht:0<S.length:=by
   cases S with
   | nil=>exact absurd rfl hS
   | cons a b=>simp
  obtain⟨e1,e2⟩:=s2 Ht
  obtain⟨v1,v2',v3'⟩:=u2 Ht
  have hys2:ys.length<=xs.length:=hsl
  have HE:Hid (L=atL S 0/\G=atL S (S.length-1)/\N=xs.length-ys.length):=⟨e1,e2,s3⟩
  obtain⟨A,hA⟩:∃A,A=atL S 0:=⟨_,rfl⟩
  obtain⟨Z,hZ⟩:∃Z,Z=atL S (S.length-1):=⟨_,rfl⟩
  rw[<-hA] at v2' HE
  rw[<-hZ] at v3' HE
  obtain⟨n,hn⟩:∃n,U.length=n+1:=⟨U.length-1,by omega⟩
  rw[hn,Nat.add_sub_cancel] at v3'
  have hun:n+1<=1048577:=by have:=zDi S S.length;rw[hU,hn] at this;omega
  obtain⟨ub,uo,rfl,c0,c1',c2⟩:=(zA0 qe).lo v2'
  obtain⟨ub',uo',eu,f0,f1,f2⟩:=(zA0 qe).lo v3'
  have hub2:w.heap.size+1+1+1<=ub:=Fq _ rfl
  have Ze:ub≠w.heap.size+1:=by omega
  have Gz:ub≠w.heap.size+1+1:=by omega
  injection eu with eu
  injection eu with eu1 eu2
  subst eu1 eu2
  rw[Nat.zero_mul,Nat.add_zero] at c0 c1' c2
  rw[hn]
  have TK:((n:Int)+1 == 0)=false:=by simp;omega
  have HV0:=zA3 v2'
  have HVN:=zA3 v3'
  clear s1 s2 s3 u1 u2 e1 e2 v1 v2' v3' hU hS Gw hSp hSr Ht hA hZ hn
  have HST2:=zA3 (zA0 QQ w3.drew a1 c1 ((zA0 Kz).later ((Below.refl _ w3).drew)))
  have hq1:(n:Int)<(n:Int)+1:=by omega
  have DM:¬(n:Int)<0:=by omega
  have hq3:(n:Int)+1-1=n:=by omega
  have hq4:n<n+1:=by omega
  have hni:(n:Int)<=1048576:=by omega
  go_upto_region 5 with fail
  go_cut[4] (fun s4 wx=>s4=.int .i64 ((xs.length:Int)-(ys.length:Int))/\(wx.cell? ⟨w.heap.size+1,0,none⟩=some (.int .i64 A.k)/\wx.cell? ⟨w.heap.size+1,1,none⟩=some (.int .i64 A.n)/\wx.cell? ⟨w.heap.size+1,2,none⟩=some (.string A.s))/\(wx.cell? ⟨w.heap.size+1+1,0,none⟩=some (.int .i64 Z.k)/\wx.cell? ⟨w.heap.size+1+1,1,none⟩=some (.int .i64 Z.n)/\wx.cell? ⟨w.heap.size+1+1,2,none⟩=some (.string Z.s))/\Below w.heap.size w wx)
  case first=>
   have Ht:(fun w':World=>w'.cell? ⟨ub,uo,none⟩=some (.int .i64 A.k)/\w'.cell? ⟨ub,uo+1,none⟩=some (.int .i64 A.n)/\w'.cell? ⟨ub,uo+2,none⟩=some (.string A.s)/\w'.cell? ⟨ub,uo+n*3,none⟩=some (.int .i64 Z.k)/\w'.cell? ⟨ub,uo+n*3+1,none⟩=some (.int .i64 Z.n)/\w'.cell? ⟨ub,uo+n*3+2,none⟩=some (.string Z.s)) w3.drew:=⟨c0,c1',c2,f0,f1,f2⟩
   refine wp_region_noPanic ?_
   refine zAu (S:=fun w':World=>w'.cell? ⟨ub,uo,none⟩=some (.int .i64 A.k)/\w'.cell? ⟨ub,uo+1,none⟩=some (.int .i64 A.n)/\w'.cell? ⟨ub,uo+2,none⟩=some (.string A.s)/\w'.cell? ⟨ub,uo+n*3,none⟩=some (.int .i64 Z.k)/\w'.cell? ⟨ub,uo+n*3+1,none⟩=some (.int .i64 Z.n)/\w'.cell? ⟨ub,uo+n*3+2,none⟩=some (.string Z.s)) (k:=17) (by kernel_rfl) ?_
   refine zA6 (i:=0) (v:=(.slice (some ⟨ub,uo,none⟩) (n+1) cc3)) [1,2,15,16,17] rfl (fun _ _ _ h=>h) (Or.inl ⟨by rfl,fun w' hSw=>?_⟩) Ht ?_
   ·dsimp only at hSw;obtain⟨q0,q1,q2,q3,q4,q5⟩:=hSw;go_simp;first|done|exact zCZ (by omega) (by omega)
   try simp only[Act.put,zAI,zAH,zAG]
   refine zA6 (i:=1) (v:=(.pointer (some ⟨ub,uo,none⟩))) [2,15,16,17] rfl (fun _ _ _ h=>h) (Or.inl ⟨by rfl,fun w' hSw=>?_⟩) Ht ?_
   ·dsimp only at hSw;obtain⟨q0,q1,q2,q3,q4,q5⟩:=hSw;go_simp;first|done|exact zCZ (by omega) (by omega)
   try simp only[Act.put,zAI,zAH,zAG]
   refine zA6 (i:=2) (v:=(.agg #[.int .i64 A.k,.int .i64 A.n,.string A.s])) [15,16,17] rfl (fun _ _ _ h=>h) (Or.inl ⟨by rfl,fun w' hSw=>?_⟩) Ht ?_
   ·dsimp only at hSw;obtain⟨q0,q1,q2,q3,q4,q5⟩:=hSw;go_simp;first|done|exact zCZ (by omega) (by omega)
   try simp only[Act.put,zAI,zAH,zAG]
   refine zA6 (i:=3) (v:=(.slice (some ⟨ub,uo,none⟩) (n+1) cc3)) [7,8,16,17] rfl (fun _ _ _ h=>h) (Or.inl ⟨by rfl,fun w' hSw=>?_⟩) Ht ?_
   ·dsimp only at hSw;obtain⟨q0,q1,q2,q3,q4,q5⟩:=hSw;go_simp;first|done|exact zCZ (by omega) (by omega)
   try simp only[Act.put,zAI,zAH,zAG]
   refine zA6 (i:=4) (v:=(.slice (some ⟨ub,uo,none⟩) (n+1) cc3)) [5,6,7,8,16,17] rfl (fun _ _ _ h=>h) (Or.inl ⟨by rfl,fun w' hSw=>?_⟩) Ht ?_
   ·dsimp only at hSw;obtain⟨q0,q1,q2,q3,q4,q5⟩:=hSw;go_simp;first|done|exact zCZ (by omega) (by omega)
   try simp only[Act.put,zAI,zAH,zAG]
   refine zA6 (i:=5) (v:=(.int .i64 ((n+1:Nat):Int))) [6,7,8,16,17] rfl (fun _ _ _ h=>h) (Or.inl ⟨by rfl,fun w' hSw=>?_⟩) Ht ?_
   ·dsimp only at hSw;obtain⟨q0,q1,q2,q3,q4,q5⟩:=hSw;go_simp;first|done|exact zCZ (by omega) (by omega)
   try simp only[Act.put,zAI,zAH,zAG]
   refine zA6 (i:=6) (v:=(.int .i64 (n:Int))) [7,8,16,17] rfl (fun _ _ _ h=>h) (Or.inl ⟨by rfl,fun w' hSw=>?_⟩) Ht ?_
   ·dsimp only at hSw;obtain⟨q0,q1,q2,q3,q4,q5⟩:=hSw;go_simp;first|done|exact zCZ (by omega) (by omega)
   try simp only[Act.put,zAI,zAH,zAG]
   refine zA6 (i:=7) (v:=(.pointer (some ⟨ub,uo+n*3,none⟩))) [8,16,17] rfl (fun _ _ _ h=>h) (Or.inl ⟨by rfl,fun w' hSw=>?_⟩) Ht ?_
   ·dsimp only at hSw;obtain⟨q0,q1,q2,q3,q4,q5⟩:=hSw;go_simp;first|done|exact zCZ (by omega) (by omega)
   try simp only[Act.put,zAI,zAH,zAG]
   refine zA6 (i:=8) (v:=(.agg #[.int .i64 Z.k,.int .i64 Z.n,.string Z.s])) [16,17] rfl (fun _ _ _ h=>h) (Or.inl ⟨by rfl,fun w' hSw=>?_⟩) Ht ?_
   ·dsimp only at hSw;obtain⟨q0,q1,q2,q3,q4,q5⟩:=hSw;go_simp;first|done|exact zCZ (by omega) (by omega)
   try simp only[Act.put,zAI,zAH,zAG]
   refine zA6 (i:=9) (v:=(.slice a1 xs.length c1)) [10,14,17] rfl (fun _ _ _ h=>h) (Or.inl ⟨by rfl,fun w' hSw=>?_⟩) Ht ?_
   ·dsimp only at hSw;obtain⟨q0,q1,q2,q3,q4,q5⟩:=hSw;go_simp;first|done|exact zCZ (by omega) (by omega)
   try simp only[Act.put,zAI,zAH,zAG]
   refine zA6 (i:=10) (v:=(.int .i64 (xs.length:Int))) [14,17] rfl (fun _ _ _ h=>h) (Or.inl ⟨by rfl,fun w' hSw=>?_⟩) Ht ?_
   ·dsimp only at hSw;obtain⟨q0,q1,q2,q3,q4,q5⟩:=hSw;go_simp;first|done|exact zCZ (by omega) (by omega)
   try simp only[Act.put,zAI,zAH,zAG]
   refine zA6 (i:=11) (v:=(.slice a1 xs.length c1)) [12,13,14,15,16,17] rfl (fun _ _ _ h=>h) (Or.inl ⟨by rfl,fun w' hSw=>?_⟩) Ht ?_
   ·dsimp only at hSw;obtain⟨q0,q1,q2,q3,q4,q5⟩:=hSw;go_simp;first|done|exact zCZ (by omega) (by omega)
   try simp only[Act.put,zAI,zAH,zAG]
   clear Ht
   refine zA7 (i:=12) (by kernel_rfl) ?_
   refine zA4 rfl (by rfl) fun K hK=>?_
   go_simp
   refine(zA0 HST2).mono ?_
   rintro e w5 ⟨v5,rfl,ZP,QO⟩
   obtain⟨a5,c5,rfl,_,_,_⟩:=zAC ZP
   have Zq:=zA2 ((Below.refl _ w3).drew) QO
   have hS5:(fun w':World=>w'.cell? ⟨ub,uo,none⟩=some (.int .i64 A.k)/\w'.cell? ⟨ub,uo+1,none⟩=some (.int .i64 A.n)/\w'.cell? ⟨ub,uo+2,none⟩=some (.string A.s)/\w'.cell? ⟨ub,uo+n*3,none⟩=some (.int .i64 Z.k)/\w'.cell? ⟨ub,uo+n*3+1,none⟩=some (.int .i64 Z.n)/\w'.cell? ⟨ub,uo+n*3+2,none⟩=some (.string Z.s)) w5:=⟨cell_later Zq c0,cell_later Zq c1',cell_later Zq c2,cell_later Zq f0,cell_later Zq f1,cell_later Zq f2⟩
   have hz5:(w.heap.size+1+1+1:Nat)<=w5.heap.size:=by have:=Zq.size;omega
   obtain⟨⟨b0,b1,b2⟩,q0,q1,q2⟩:=zBQ (B:=w.heap.size+1+1) (w:=(w.alloc (.cells #[.int .i64 X.k,.slice p.a1 X.nl.length p.c1,.slice p.a2 X.ns.length p.c2,.slice p.a3 X.ss.length p.c3] 49)).alloc zE3) (by simp) rfl (zA2 (zA0 HBF) Zq)
   obtain⟨⟨d0,d1,d2⟩,r0,r1,r2⟩:=zBQ (B:=w.heap.size+1) (w:=w.alloc (.cells #[.int .i64 X.k,.slice p.a1 X.nl.length p.c1,.slice p.a2 X.ns.length p.c2,.slice p.a3 X.ss.length p.c3] 49)) (by simp) rfl (zAP (zA2 (zA0 HBF) Zq))
   have DA:=zA3 (zA2 (zA0 QV) Zq)
   go_simp
   refine zA0 hK _ _ ⟨fun _=>hS5,?_⟩
   clear hK K ZP QO Zq
   try simp only[Act.put,zAI,zAH,zAG]
   refine zA6 (i:=13) (v:=(.int .i64 (ys.length:Int))) [14,17] rfl (fun _ _ _ h=>h) (Or.inl ⟨by rfl,fun w' hSw=>?_⟩) hS5 ?_
   ·go_simp
   try simp only[Act.put,zAI,zAH,zAG]
   refine zA6 (i:=14) (v:=(.int .i64 ((xs.length:Int)-(ys.length:Int)))) [17] rfl (fun _ _ _ h=>h) (Or.inl ⟨by rfl,fun w' hSw=>?_⟩) hS5 ?_
   ·go_simp;first|done|exact zCZ (by omega) (by omega)
   try simp only[Act.put,zAI,zAH,zAG]
   refine zA7 (i:=15) (by kernel_rfl) ?_
   refine zA4 rfl (by rfl) fun K hK=>?_
   go_simp
   have hS6:(fun w':World=>w'.cell? ⟨ub,uo,none⟩=some (.int .i64 A.k)/\w'.cell? ⟨ub,uo+1,none⟩=some (.int .i64 A.n)/\w'.cell? ⟨ub,uo+2,none⟩=some (.string A.s)/\w'.cell? ⟨ub,uo+n*3,none⟩=some (.int .i64 Z.k)/\w'.cell? ⟨ub,uo+n*3+1,none⟩=some (.int .i64 Z.n)/\w'.cell? ⟨ub,uo+n*3+2,none⟩=some (.string Z.s)) (((w5.setCell ⟨w.heap.size+1,0,none⟩ (.int .i64 A.k)).setCell ⟨w.heap.size+1,1,none⟩ (.int .i64 A.n)).setCell ⟨w.heap.size+1,2,none⟩ (.string A.s)):=by
    obtain⟨z0,z1,z2,z3,z4,z5⟩:=hS5
    exact⟨by simp[go_sem,Ze,z0],by simp[go_sem,Ze,z1],by simp[go_sem,Ze,z2],by simp[go_sem,Ze,z3],by simp[go_sem,Ze,z4],by simp[go_sem,Ze,z5]⟩
   refine zA0 hK _ _ ⟨fun _=>hS6,?_⟩
   clear hK K
   refine zA7 (i:=16) (by kernel_rfl) ?_
   refine zA4 rfl (by rfl) fun K hK=>?_
   go_simp
   have JX:(fun w':World=>w'.cell? ⟨ub,uo,none⟩=some (.int .i64 A.k)/\w'.cell? ⟨ub,uo+1,none⟩=some (.int .i64 A.n)/\w'.cell? ⟨ub,uo+2,none⟩=some (.string A.s)/\w'.cell? ⟨ub,uo+n*3,none⟩=some (.int .i64 Z.k)/\w'.cell? ⟨ub,uo+n*3+1,none⟩=some (.int .i64 Z.n)/\w'.cell? ⟨ub,uo+n*3+2,none⟩=some (.string Z.s)) ((((((w5.setCell ⟨w.heap.size+1,0,none⟩ (.int .i64 A.k)).setCell ⟨w.heap.size+1,1,none⟩ (.int .i64 A.n)).setCell ⟨w.heap.size+1,2,none⟩ (.string A.s)).setCell ⟨w.heap.size+1+1,0,none⟩ (.int .i64 Z.k)).setCell ⟨w.heap.size+1+1,1,none⟩ (.int .i64 Z.n)).setCell ⟨w.heap.size+1+1,2,none⟩ (.string Z.s)):=by
    obtain⟨z0,z1,z2,z3,z4,z5⟩:=hS5
    exact⟨by simp[go_sem,Ze,Gz,z0],by simp[go_sem,Ze,Gz,z1],by simp[go_sem,Ze,Gz,z2],by simp[go_sem,Ze,Gz,z3],by simp[go_sem,Ze,Gz,z4],by simp[go_sem,Ze,Gz,z5]⟩
   refine zA0 hK _ _ ⟨fun _=>JX,?_⟩
   clear hK K
   refine zA7 (i:=17) (by kernel_rfl) ?_
   refine zA4 rfl (by rfl) fun K hK=>?_
   go_simp
   refine zA0 hK _ _ ⟨fun hh=>absurd hh (by decide),?_⟩
   clear hK K
   refine zAl (by kernel_rfl) ?_ _
   refine NoPanic.normal ?_
   clear hS5 hS6 JX
   go_wp2
   go_meet
   refine⟨rfl,⟨by simp[go_sem, *],by simp[go_sem, *],by simp[go_sem, *]⟩,⟨by simp[go_sem, *],by simp[go_sem, *],by simp[go_sem, *]⟩,?_⟩
   exact put3 (put3 (zA0 DA) (by omega) _ _ _) (by omega) _ _ _
  case rest=>
   obtain⟨rfl,⟨x0,x1,x2⟩,⟨y0,y1,y2⟩,hbe⟩:=hcut
   have DA:=zA3 hbe
   clear hbe
   go_wp2
   refine bodyPost_ret (v:=.tuple #[A.v,Z.v,.int .i64 ((xs.length:Int)-(ys.length:Int))]) (by simp[results,Tryz.results35,go_sem,Val.v, *]) rfl ⟨?_,zA0 DA⟩
   obtain⟨e1,e2,e3⟩:=zA0 HE
   have e4:((xs.length-ys.length:Nat):Int)=(xs.length:Int)-(ys.length:Int):=by omega
   rw[e1,e2,e3,e4]
theorem zNl{ys W W':List Val}(hc:∀y∈ys,zA8 y=y)(h:zBW ys W)(h':zBW ys W'):W=W':=by
 obtain⟨S,hp,hr,rfl⟩:=h
 obtain⟨S',hp',hr',rfl⟩:=h'
 rw[zIM hr hr' (hp.trans hp'.symm) (fun x hx=>hc x (hp.mem_iff.1 hx))]
theorem zS4{n:Nat}{ys:List Val}{b b':List Int}(hc:∀y∈ys,zA8 y=y)(h:zEj n ys b)(h':zEj n ys b'):b=b':=by
 rcases h with ⟨rfl,rfl⟩|⟨rfl,rfl⟩|⟨rfl,W,hW,rfl⟩|⟨rfl,rfl⟩
 ·rcases h' with ⟨_,rfl⟩|⟨e,_⟩|⟨e,_⟩|⟨e,_⟩
  ·rfl
  all_goals cases e
 ·rcases h' with ⟨e,_⟩|⟨_,rfl⟩|⟨e,_⟩|⟨e,_⟩
  ·cases e
  ·rfl
  all_goals cases e
 ·rcases h' with ⟨e,_⟩|⟨e,_⟩|⟨_,W',Tp,rfl⟩|⟨e,_⟩
  ·cases e
  ·cases e
  ·rw[zNl hc hW Tp]
  ·cases e
 ·rcases h' with ⟨e,_⟩|⟨e,_⟩|⟨e,_⟩|⟨_,rfl⟩
  ·cases e
  ·cases e
  ·cases e
  ·rfl
theorem zJU{X:Vc}(hg:zAg X=true){n:Int}{s s':ByteArray}{f f':Int}(h:PW X n s f)(h':PW X n s' f'):s=s'/\f=f':=by
 rcases h with ⟨h1,rfl,rfl⟩|⟨h1,h2,rfl,rfl⟩|⟨h1,h2,rfl,b,hb,rfl⟩
 ·rcases h' with ⟨_,rfl,rfl⟩|⟨g1,_⟩|⟨g1,_⟩
  ·exact⟨rfl,rfl⟩
  ·rw[h1] at g1;cases g1
  ·rw[h1] at g1;cases g1
 ·rcases h' with ⟨g1,_⟩|⟨_,_,rfl,rfl⟩|⟨_,g2,_⟩
  ·rw[h1] at g1;cases g1
  ·exact⟨rfl,rfl⟩
  ·omega
 ·rcases h' with ⟨g1,_⟩|⟨_,g2,_⟩|⟨_,_,rfl,b',Yl,rfl⟩
  ·rw[h1] at g1;cases g1
  ·omega
  ·rw[zS4 (fun y hy=>zD0 hg (List.mem_filter.1 hy).1) hb Yl]
   exact⟨rfl,rfl⟩
theorem zST{X:Vc}(hg:zAg X=true):∀(j:Nat) (b:ByteArray),PB X j b->(∃n:Nat,1<=n/\n<=j+1/\PW X (n:Int) b 0)/\∀(n:Nat) (s:ByteArray),1<=n->n<=j+1->PW X (n:Int) s 0->b.size<=s.size
 | 0,b,h=>by
  refine⟨⟨1,by omega,by omega,h⟩,fun n s h1 h2 hs=>?_⟩
  have:n=1:=by omega
  subst this
  rw[(zJU hg h hs).1];exact Nat.le_refl _
 | j+1,b,⟨c,s,f,hc,hs,hb⟩=>by
  obtain⟨⟨n,n1,n2,hn⟩,hmin⟩:=zST hg j c hc
  have e:(j:Int)+2=((j+2:Nat):Int):=by omega
  rw[e] at hs
  subst hb
  unfold zIU
  by_cases hp:f=0/\s.size<c.size
  ·rw[if_pos hp]
   obtain⟨rfl,He⟩:=hp
   refine⟨⟨j+2,by omega,by omega,hs⟩,fun m t m1 m2 ht=>?_⟩
   by_cases hm:m=j+2
   ·subst hm;rw[(zJU hg hs ht).1];exact Nat.le_refl _
   ·have:=hmin m t m1 (by omega) ht;omega
  ·rw[if_neg hp]
   refine⟨⟨n,n1,by omega,hn⟩,fun m t m1 m2 ht=>?_⟩
   by_cases hm:m=j+2
   ·subst hm
    obtain⟨e1,e2⟩:=zJU hg hs ht
    subst e1;subst e2
    have:¬s.size<c.size:=fun h=>hp ⟨rfl,h⟩
    omega
   ·exact hmin m t m1 (by omega) ht
theorem zJP:∀(f:Nat) (xs:List Val),(∀x∈xs,x.s.size<=1000)->(zC2 f xs).length<=1012*f
 | 0,_,_=>by simp[zC2]
 | f+1,[],_=>by simp[zC2]
 | f+1,x::xs,h=>by
  have h1:=zD3 x
  have h2:=h x (by simp)
  have h3:=zJP f ((x::xs).drop (zAz (x::xs))) (fun y hy=>h y (List.mem_of_mem_drop hy))
  rw[zC2,zAX,zAX,zAK]
  omega
theorem zK4{k d:Nat}(hk:k<=4096)(hd:d<=64):zAO k d<=32769:=by
 have:k*d<=4096*64:=Nat.mul_le_mul hk hd
 unfold zAO;omega
theorem zS5{n:Nat}{ys:List Val}{b:List Int}(h:zEj n ys b)(hl:ys.length<=4096)(hs:∀x∈ys,x.s.size<=1000):b.length<=5000000:=by
 rcases h with ⟨_,rfl⟩|⟨_,rfl⟩|⟨_,W,hW,rfl⟩|⟨_,rfl⟩
 ·have:=zEs ys hs hl;omega
 ·have:=zJP ys.length ys hs
  rw[zAX,zAK];omega
 ·have h1:=zEs W (fun x hx=>hs x (hW.sub hx)) (by have:=hW.len;omega)
  have Hf:=hW.len
  have hd:bl (W.length-1)<=64:=zFr (by have:(2:Nat)^64=18446744073709551616:=(by decide);omega)
  have:=zK4 hl hd
  unfold zDA
  rw[zAX,zAX,zAK,zBw];omega
 ·have:=zK4 hl (zIA (zCQ ys) ys)
  unfold zFj
  rw[zAX,zAX,zAK,zAK,zBw];omega
theorem zOr{X:Vc}{n:Int}{s:ByteArray}(h:PW X n s 0):s.size<=6000000:=by
 rcases h with ⟨_,_,h⟩|⟨_,_,_,h⟩|⟨hb,hl,_,b,Zl,rfl⟩
 ·cases h
 ·cases h
 have hg:zAg X=true:=by
  unfold zFU at hb
  cases hgg:zAg X
  ·rw[hgg] at hb;simp at hb
  ·rfl
 have Yu:(zAD X).length<=4096:=Nat.le_trans (zKN X) hl
 have h1:=zS5 Zl (Nat.le_trans (List.length_filter_le _ _) Yu) (fun x hx=>zCD hg (List.mem_filter.1 hx).1)
 have h2:=zDc (zAD X) Yu
 rw[zAN,zAX]
 unfold zB2
 rw[zAX,zAX,zAX,zAK,zAK,zAK]
 omega
theorem zRD{X:Vc}(hr:∀n∈X.ns,-9223372036854775808<=n/\n<=9223372036854775807){n:Nat}(h1:1<=n)(h4:n<=4){s:ByteArray}(h:PW X (n:Int) s 0):zSM s n X.k (zAD X):=
 zLj (by have:=zOr h;omega) (zHh hr (by omega) h)
def KP(X:Vc)(s:ByteArray):Prop:=PP X s 0
def zP(X:Vc):ByteArray:=zJ3 (zBR (zAD X) (zAD X).length).1 (zBR (zAD X) (zAD X).length).2.1 (zBR (zAD X) (zAD X).length).2.2
theorem zIf{f:Val->Val->Val}(hf:∀m x,f m x=m∨f m x=x):∀(ys:List Val) (m:Val),ys.foldl f m=m∨ys.foldl f m∈ys
 | [],m=>.inl rfl
 | y::ys,m=>by
  rw[List.foldl_cons]
  rcases zIf hf ys (f m y) with h|h
  ·rw[h]
   rcases hf m y with e|e
   ·exact .inl e
   ·exact .inr (by rw[e];simp)
  ·exact .inr (List.mem_cons_of_mem _ h)
theorem zGj{xs:List Val}(h:∀x∈xs,x.s.size<=1000):(zBR xs xs.length).1.s.size<=1000/\(zBR xs xs.length).2.1.s.size<=1000:=by
 have key:∀(f:Val->Val->Val),(∀m x,f m x=m∨f m x=x)->((zAA (xs.take xs.length)).foldl f .null).s.size<=1000:=fun f hf=>by
  rcases zIf hf (zAA (xs.take xs.length)) .null with e|e
  ·rw[e];decide
  ·rw[List.take_length] at e ⊢
   exact h _ (List.mem_filter.1 e).1
 refine⟨key zJ0 (fun m x=>?_),key zDE (fun m x=>?_)⟩
 ·unfold zJ0;split
  ·exact .inr rfl
  ·exact .inl rfl
 ·unfold zDE;split
  ·exact .inr rfl
  ·exact .inl rfl
theorem zU5{X:Vc}(hg:zAg X=true){s:ByteArray}(h:PP X s 0):∃n:Nat,1<=n/\n<=4/\PW X (n:Int) s 0:=by
 rcases h with ⟨_,h⟩|⟨_,h,_⟩
 ·obtain⟨⟨n,h1,h2,h3⟩,_⟩:=zST hg 3 s h
  exact⟨n,h1,by omega,h3⟩
 ·exact absurd rfl h
structure Fit(rows:Nat)(X:Vc):Prop where
 good:zAg X=true
 len:X.nl.length=rows
 le:rows<=4096
 ns:X.ns.length<=rows
 ss:X.ss.length<=rows
 rng:∀n∈X.ns,-9223372036854775808<=n/\n<=9223372036854775807
theorem Fit.small{rows:Nat}{X:Vc}(h:Fit rows X):small X:=by
 have:=h.len;have:=h.le;have:=h.ns;have:=h.ss
 exact⟨by omega,by omega,by omega⟩
theorem Fit.pp{rows:Nat}{X:Vc}(h:Fit rows X){s:ByteArray}{f:Int}(hp:PP X s f):f=0:=by
 rcases hp with ⟨e,_⟩|⟨_,hf,t,hw⟩
 ·exact e
 ·have hl:=h.len
  have YT:=h.le
  have Ql:zFU X 1=false:=by unfold zFU;rw[h.good];simp
  rcases hw with ⟨e,_⟩|⟨_,e,_⟩|⟨_,_,e,_⟩
  ·rw[Ql] at e;cases e
  ·omega
  ·exact e
theorem Fit.vlen{rows:Nat}{X:Vc}(h:Fit rows X):(zAD X).length=rows:=(zAb h.good).trans h.len
theorem Fit.zone{rows:Nat}{X:Vc}(h:Fit rows X):(zP X).size<=10000:=by
 have hs:=zGj (xs:=zAD X) (fun x hx=>zCD h.good hx)
 have h2:=zIc [(zBR (zAD X) (zAD X).length).1,(zBR (zAD X) (zAD X).length).2.1,Val.num ((zBR (zAD X) (zAD X).length).2.2:Nat)]
 have e:∀N:Int,(Val.num N).s.size=0:=fun _=>rfl
 simp only[zF8,zNt,List.map_cons,List.map_nil,List.sum_cons,List.sum_nil,e] at h2
 unfold zP zJ3
 rw[zAN]
 omega
theorem Fit.law{rows:Nat}{X:Vc}(h:Fit rows X):zSm KP zP rows X:=by
 have hs:=zGj (xs:=zAD X) (fun x hx=>zCD h.good hx)
 refine⟨fun p W hp=>?_,fun s W hk=>?_,fun p W hp=>?_,fun s hk=>?_,h.zone⟩
 ·refine(zOt X p W h.small hp).mono ?_
  rintro e w' ⟨s,f,rfl,hpp,hb⟩
  have:=h.pp (zA0 hpp)
  subst this
  exact⟨s,rfl,zA0 hpp,hb⟩
 ·obtain⟨n,h1,h4,hw⟩:=zU5 h.good hk
  have ho:=zRD h.rng h1 h4 hw
  exact zQZ s _ _ _ (fun W=>zQw ho (by rw[h.vlen];exact h.le) W) (by omega) (by omega) W
 ·have:=zPb X p W h.small hp
  rwa [h.vlen] at this
 ·obtain⟨n,h1,h4,hw⟩:=zU5 h.good hk
  have:=zOr hw
  omega
theorem Fit.rlaw{rows:Nat}{X:Vc}(h:Fit rows X):RLaw KP zP X:=by
 have hs:=zGj (xs:=zAD X) (fun x hx=>zCD h.good hx)
 refine⟨fun p W s hp hk=>?_,⟨_,_,_,rfl,by omega,by omega,fun p W hp=>?_⟩⟩
 ·refine(zOe X p W h.small hp).mono ?_
  rintro e w' ⟨t,g,rfl,hrp,hb⟩
  obtain⟨rfl,rfl⟩:=zOW (fun n hn=>h.rng n hn) hk (zA0 hrp)
  exact⟨rfl,hb⟩
 ·exact zJR X p W h.small hp rfl (fun x hx=>zD0 h.good hx) (by rw[h.vlen];exact h.le)
set_option maxHeartbeats 8000000
theorem zEe(w:World)(c:Vc×Sl):∀j u,(c4 c)[j]?=some u->(w.alloc (.cells #[.int .i64 c.1.k,.slice c.2.a1 c.1.nl.length c.2.c1,.slice c.2.a2 c.1.ns.length c.2.c2,.slice c.2.a3 c.1.ss.length c.2.c3] 49)).cell? ((⟨w.heap.size,0,none⟩:Addr).add j)=some u:=by
 intro j u hu
 have ZE:(⟨w.heap.size,0,none⟩:Addr).add j=⟨w.heap.size,j,none⟩:=by unfold Addr.add;split<;>simp_all
 rw[ZE,cell_of_row _ _ j _ 49 (0,0) (heap_alloc_last w _)]
 simpa [c4] using hu
theorem zQI(c:Vc×Sl):∀u∈c4 c,u.oneCell'=true:=by
 intro u hu
 simp[c4] at hu
 rcases hu with rfl|rfl|rfl|rfl<;>rfl
theorem zNZ.app{w0 w w1:World}{v v1:Value}{Cs:List (Vc×Sl)}{c:Vc×Sl}{o:Obj}{n:Nat}(h:zNZ w0 w v Cs)(hv:zAi w c.1 c.2)(hf:zBb n c.2)(hn:∀g,v.ownBlock=some g->g<n)
  (Hd:w1.ownsRow w0.heap.size 49 4 v1 (Cs.length+1) (Cs.flatMap c4++c4 c)) (Hy:(w.alloc o).grownBy w1 v.ownBlock) (Hm:v1.ownBlock=v.ownBlock∨v1.ownBlock=some (w.alloc o).heap.size):zNZ w0 w1 v1 (Cs++[c]):=by
 have hA:Below w.heap.size w (w.alloc o):=zA1 (Below.refl _ _) _
 have hlv:∀g,v.ownBlock=some g->g<w.heap.size:=fun g hg=>(World.ownsRow.lt h.own g hg).2
 have comp:∀w2,w1.grownBy w2 v1.ownBlock->w.grownBy w2 v.ownBlock:=fun w2 Hj=>by
  have h1:=zCg hA Hy
  refine⟨Hj.os.trans h1.os,Hj.tape.trans h1.tape,Hj.output.trans h1.output,Nat.le_trans h1.size Hj.size,fun i hi Hg=>?_⟩
  rw[Hj.block i (Nat.lt_of_lt_of_le hi h1.size) ?_,h1.block i hi Hg]
  rcases Hm with e|e
  ·rw[e];exact Hg
  ·rw[e];intro e2;cases e2;simp at hi;omega
 refine⟨?_,fun d hd w2 Hj=>?_,?_⟩
 ·rw[zAX,List.flatMap_append]
  simpa using Hd
 ·rcases List.mem_append.1 hd with m|m
  ·exact h.saf d m w2 (comp w2 Hj)
  ·simp at m
   subst m
   cases hb:v.ownBlock with
   | none=>
    have g2:=comp w2 Hj
    rw[hb] at g2
    exact hv.later ⟨g2.os,g2.tape,g2.output,g2.size,fun k hk=>g2.block k hk (by simp)⟩
   | some g=>exact zO1 hv hf (hn g hb) (row:=some g) (fun b e=>by cases e;rfl) (hb ▸ comp w2 Hj)
 ·exact h.bel.trans ((hA.mono h.bel.size).grown Hy (by simp;exact Nat.le_succ_of_le h.bel.size) (fun k e=>(World.ownsRow.lt h.own k e).1))
def zUu(zAB:List Int)(rs:List (List Val))(w':World)(e:Ending):Prop:=∃(a:Option Addr) (c:Nat) (Cs:List (Vc×Sl)),e=.returned (.slice a zAB.length c)/\Cs.length=zAB.length/\(∀(i:Nat) (d:Vc×Sl),Cs[i]?=some d->d.1=(colX zAB rs i).1)/\zBq w' a Cs
def zUt(zAB:List Int)(rs:List (List Val))(w w':World)(e:Ending):Prop:=∃(a:Option Addr) (c:Nat) (Cs:List (Vc×Sl)),e=.returned (.slice a zAB.length c)/\Cs.length=zAB.length/\(∀(i:Nat) (d:Vc×Sl),Cs[i]?=some d->d.1=(colX zAB rs i).1)/\zBq w' a Cs/\(∀ad,a=some ad->w.heap.size<=ad.block)/\∀d∈Cs,zBb w.heap.size d.2
theorem zFP(zAB:List Int)(ak:Option Addr)(ck:Nat)(rs:List (List Val))(ar:Option Addr)(cr:Nat)(w:World)(hk:zAB.length<=32)(hr:rs.length<=4096)(qw:∀r∈rs,r.length=zAB.length)
  (GC:zAp w ak (zAB.map (Value.int .i64))) (TX:zCY w ar rs) :
  Calls Tryz.prog 33 #[.slice ak zAB.length ck,.slice ar rs.length cr] w fun e w'=>zUt zAB rs w w' e/\Below w.heap.size w w':=by
 obtain⟨i4,Qd,z40,z41,z42⟩:=info_parts Tryz.info59
 obtain⟨j4,FI,y40,y41,y42⟩:=info_parts Tryz.info49'
 have yq:=zA3 GC
 have HAR:=zA3 TX
 have KH:=zA3 qw
 clear GC TX qw
 go_enter Tryz.func33,Tryz.ntmps33
 go_wp2
 go_loopw[5,15] (fun v s wr=>∃(k:Nat) (Cs:List (Vc×Sl)),s=.int .i64 (k:Int)/\k<=zAB.length/\Cs.length=k/\Hid (zNZ w wr v Cs)/\Hid (∀(i:Nat) (d:Vc×Sl),Cs[i]?=some d->d.1=(colX zAB rs i).1)/\Hid (∀d∈Cs,zBb w.heap.size d.2)) (fun _ s _=>zAB.length-(intOf s).toNat)
 case atStart=>exact⟨0,[],rfl,by omega,rfl,zNZ.nil w,(fun i d hd=>by simp at hd),fun d hd=>by simp at hd⟩
 case round=>
  obtain⟨k,Cs,rfl,Tk,YN,S,HX,qi⟩:=hrel
  by_cases h7:k<zAB.length
  ·have i7:(k:Int)<(zAB.length:Int):=by omega
   obtain⟨kd,YG⟩:∃kd,zAB[k]?=some kd:=⟨_,zAf h7⟩
   obtain⟨vb,vo,rfl,q0⟩:=zDT ((zA0 yq).later (zA0 S).bel) (show (zAB.map (Value.int .i64))[k]?=some (.int .i64 kd) by simp[YG])
   have hcx:colX zAB rs k=zBU kd (zGR rs k):=by simp[colX,YG]
   have hl:(zGR rs k).length=rs.length:=by simp[zGR]
   have qg:=zA3 hl
   have HF:Hid (∀(a':Option Addr) (c':Nat) (W:World),zAR W a' (zGR rs k)->Calls Tryz.prog 17 #[.int .i64 kd,.slice a' (zGR rs k).length c'] W fun e w'=>∃p er,e=.returned (.tuple #[.agg #[.int .i64 (colX zAB rs k).1.k,.slice p.a1 (colX zAB rs k).1.nl.length p.c1,.slice p.a2 (colX zAB rs k).1.ns.length p.c2,.slice p.a3 (colX zAB rs k).1.ss.length p.c3],.int .i64 er])/\zAi w' (colX zAB rs k).1 p/\zBb W.heap.size p/\Below W.heap.size W w'):=fun a' c' W hW=>by
    refine(zGp a' c' kd (zGR rs k) W (by rw[hl];omega) hW).mono ?_
    rintro e w' ⟨p,rfl,h⟩
    rw[hcx]
    exact⟨p,_,rfl,h⟩
   clear hcx YG hl
   generalize hY:(colX zAB rs k).1=X at HF
   have HY:=zA3 hY
   clear hY
   go_wp2
   obtain⟨W1,rfl⟩:∃W1,W1=wr:=⟨_,rfl⟩
   go_loopw[8,22] (fun l s wr=>∃j:Nat,j<=rs.length/\s=.int .i64 (j:Int)/\zAV wr W1.heap.size l ((zGR rs k).take j)/\Below W1.heap.size W1 wr) (fun _ s _=>rs.length-(intOf s).toNat)
   case atStart=>exact⟨0,Nat.zero_le _,rfl,World.ownsRow_nil _ _ _ _,Below.refl _ _⟩
   case round=>
    obtain⟨j,hj,rfl,ho,hb⟩:=hrel
    by_cases h8:j<rs.length
    ·have i8:(j:Int)<(rs.length:Int):=by omega
     obtain⟨r,hx⟩:∃r,rs[j]?=some r:=⟨_,zAf h8⟩
     obtain⟨rb,ro,rfl,ra,rc,c0,QB⟩:=zGK ((zA0 HAR).later (zA2 (zA0 S).bel hb)) hx
     have DR:k<r.length:=by rw[zA0 KH r (List.mem_of_getElem? hx)];exact h7
     obtain⟨x,JQ⟩:∃x,r[k]?=some x:=⟨_,zAf DR⟩
     obtain⟨rb2,ro2,rfl,d0,d1,d2⟩:=zIJ QB JQ
     have i2:(k:Int)<(r.length:Int):=by omega
     have HXX:=zA3 (take_one (zQ9 hx JQ))
     have Hf:((zGR rs k).take j).length=j:=by rw[List.length_take,zA0 qg];omega
     have Qg:=zA3 Hf
     have HO:=zA3 ho
     have HB:=zA3 hb
     clear hx JQ QB Hf ho hb
     go_wp2_with (at_builtin;refine wpList_append_own_at _ rfl (.tmp 26) (.tmp 31) 37 rfl W1.heap.size 59 i4 (.agg #[.int .i64 0,.int .i64 0,.string ⟨#[]⟩]) 3 32 Tryz.underlying37 Qd z40 z41 z42 rfl (by decide) _ _ _ rfl (World.ownsRow.alloc (zA0 HO) _) ⟨wr.heap.size,0,none⟩ 1 1 (c3 x) rfl rfl (zAy wr x) (zBY _) (by rw[zA0 Qg];unfold maxLen;omega) (by rw[zA0 Qg];omega) (by have:=(zA0 HB).size;simp;omega) ?_;intro v1 w3 Hc Ha _ Hl;have Ya:=zB9 Hc;have Hy:(wr.alloc (.cells #[.int .i64 x.k,.int .i64 x.n,.string x.s] 59)).grownBy w3 u8.ownBlock:=Ha;clear Hc Ha Hl)
     exact⟨⟨j+1,by omega,by go_num,zCf Ya (zA0 HXX).symm,zCT (zA0 HB) (zA0 HO) (Nat.le_refl _) Hy⟩,by simp[intOf];omega⟩
    ·have i8:¬(j:Int)<(rs.length:Int):=by omega
     have Jx:(zGR rs k).take j=zGR rs k:=List.take_of_length_le (by rw[zA0 qg];omega)
     rw[Jx] at ho
     obtain⟨a',c',rfl,QB⟩:=zBy ho
     have S2:=zA3 ((zA0 S).later hb)
     clear Jx ho
     have HC4:Hid (∀(w4:World) (p:Sl) (j:Nat) (u:Value),(c4 (X,p))[j]?=some u->((w4.alloc (.cells #[.int .i64 X.k,.slice p.a1 X.nl.length p.c1,.slice p.a2 X.ns.length p.c2,.slice p.a3 X.ss.length p.c3] 49)).alloc (.cells #[.int .i64 X.k,.slice p.a1 X.nl.length p.c1,.slice p.a2 X.ns.length p.c2,.slice p.a3 X.ss.length p.c3] 49)).cell? ((⟨w4.heap.size+1,0,none⟩:Addr).add j)=some u):=fun w4 p j u hu=>by
      have:=zEe (w4.alloc (.cells #[.int .i64 X.k,.slice p.a1 X.nl.length p.c1,.slice p.a2 X.ns.length p.c2,.slice p.a3 X.ss.length p.c3] 49)) (X,p) j u hu
      rwa [show (w4.alloc (.cells #[.int .i64 X.k,.slice p.a1 X.nl.length p.c1,.slice p.a2 X.ns.length p.c2,.slice p.a3 X.ss.length p.c3] 49)).heap.size=w4.heap.size+1 by simp] at this
     have YZ:=zA3 YN
     clear YN
     go_wp2_with (first
      | (go_at_call 17;refine(zA0 HF a' c' wr QB).mono ?_;rintro _ w4 ⟨p,er,rfl,hv4,DV,Qe⟩;have S4:=zA3 (((zA0 S2).later Qe).later (zA1 (Below.refl _ _) (.cells #[.int .i64 X.k,.slice p.a1 X.nl.length p.c1,.slice p.a2 X.ns.length p.c2,.slice p.a3 X.ss.length p.c3] 49))))
      | (at_builtin;refine wpList_append_own_at _ rfl (.tmp 40) (.tmp 42) 66 rfl w.heap.size 49 j4 (.agg #[.int .i64 0,.slice none 0 0,.slice none 0 0,.slice none 0 0]) 4 80 Tryz.underlying66 FI y40 y41 y42 rfl (by decide) _ _ _ rfl (World.ownsRow.alloc (zA0 S4).own _) ⟨w4.heap.size+1,0,none⟩ 1 1 (c4 (X,p)) rfl rfl (zA0 HC4 w4 p) (zQI _) (by rw[zA0 YZ];unfold maxLen;omega) (by rw[zA0 YZ];omega) (by have:=(zA0 S4).bel.size;simp at this ⊢;omega) ?_;intro v5 w5 Zx YM _ qE))
     have S5:=(zA0 S4).app (c:=(X,p)) (n:=wr.heap.size) (hv4.later (zA1 (Below.refl _ _) _)) DV (fun g hg=>(World.ownsRow.lt (zA0 S2).own g hg).2) Zx YM qE
     refine⟨⟨k+1,Cs++[(X,p)],by go_num,by omega,by simp[zA0 YZ],S5,fun i d hd=>?_,fun d hd=>?_⟩,by simp[intOf];omega⟩
     rotate_left
     ·rcases List.mem_append.1 hd with m|m
      ·exact zA0 qi d m
      ·simp only[List.mem_singleton] at m
       subst m
       exact DV.less (zA0 S2).bel.size
     by_cases hi:i<k
     ·rw[List.getElem?_append_left (by rw[zA0 YZ];exact hi)] at hd
      exact zA0 HX i d hd
     ·have e2:i=k:=by
       have:=(zAL hd).1
       simp[zA0 YZ] at this
       omega
      subst e2
      rw[List.getElem?_append_right (by rw[zA0 YZ];omega),zA0 YZ] at hd
      simp at hd
      subst hd
      exact(zA0 HY).symm
  ·have i7:¬(k:Int)<(zAB.length:Int):=by omega
   have Zj:k=zAB.length:=by omega
   obtain⟨a,c,e,GW⟩:=(zA0 S).cols
   have HAD:Hid (∀ad,a=some ad->w.heap.size<=ad.block):=fun ad he=>(World.ownsRow.lt (zA0 S).own ad.block (by rw[e,he];rfl)).1
   rw[YN,Zj] at e
   have YZ:Hid (Cs.length=zAB.length):=by show _=_;omega
   clear YN Zj
   subst e
   go_wp2
   go_ret
   exact⟨⟨a,c,Cs,rfl,zA0 YZ,zA0 HX,GW,zA0 HAD,zA0 qi⟩,(zA0 S).bel⟩
theorem zIm(zAB:List Int)(ak:Option Addr)(ck:Nat)(rs:List (List Val))(ar:Option Addr)(cr:Nat)(w:World)(hk:zAB.length<=32)(hr:rs.length<=4096)(qw:∀r∈rs,r.length=zAB.length)
  (GC:zAp w ak (zAB.map (Value.int .i64))) (TX:zCY w ar rs) :
  Calls Tryz.prog 33 #[.slice ak zAB.length ck,.slice ar rs.length cr] w fun e w'=>zUu zAB rs w' e/\Below w.heap.size w w':=by
 refine(zFP zAB ak ck rs ar cr w hk hr qw GC TX).mono ?_
 rintro e w' ⟨⟨a,c,Cs,h1,h2,h3,h4,_⟩,h5⟩
 exact⟨⟨a,c,Cs,h1,h2,h3,h4⟩,h5⟩
end Go.Proofs.YtekgpapophibcaaGreat

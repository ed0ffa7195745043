import Derived.Test.YtekgpapophibcaaGreatRefF
set_option linter.unusedSimpArgs false
set_option linter.unusedVariables false
set_option maxHeartbeats 8000000
set_option maxRecDepth 100000
namespace Go.Proofs.YtekgpapophibcaaGreat
open Go.RowKit Go.Sort
theorem zT3(X:Vc)(p:Sl)(kd:Nat)(w:World)(hs:small X)(hp:zAi w X p)(hg:zAg X=true)(hk:X.k=(kd:Int))(YG:kd=1∨kd=2)(h4:¬(4=4/\kd=2))(hl:X.nl.length<=4096) :
  Calls Tryz.prog 63 #[zCC X p,.int .i64 4] w fun e w'=>∃b,e=.returned (.tuple #[.string (toB (zB2 4 kd (zAD X)++b)),.int .i64 0])/\zK9 4 (zAA (zAD X)) b/\Below w.heap.size w w':=by
 rw[zAM]
 have bl:=zA1 (Below.refl _ w) (.cells #[.int .i64 X.k,.slice p.a1 X.nl.length p.c1,.slice p.a2 X.ns.length p.c2,.slice p.a3 X.ss.length p.c3] 49)
 have HG:=zA3 (zCi X p _ hs (hp.later bl))
 rw[zAM] at HG
 rw[hg] at HG
 have Qh:Hid ((zAD X).length=X.nl.length):=zAb hg
 have Yf:X.nl.length<=1048576:=hs.1
 have FACT:Hid (∀w1,Below (w.alloc (.cells #[.int .i64 X.k,.slice p.a1 X.nl.length p.c1,.slice p.a2 X.ns.length p.c2,.slice p.a3 X.ss.length p.c3] 49)).heap.size (w.alloc (.cells #[.int .i64 X.k,.slice p.a1 X.nl.length p.c1,.slice p.a2 X.ns.length p.c2,.slice p.a3 X.ss.length p.c3] 49)) w1->(w1.cell? ⟨w.heap.size,0,none⟩=some (.int .i64 X.k)/\w1.cell? ⟨w.heap.size,1,none⟩=some (.slice p.a1 X.nl.length p.c1)/\w1.cell? ⟨w.heap.size,2,none⟩=some (.slice p.a2 X.ns.length p.c2)/\w1.cell? ⟨w.heap.size,3,none⟩=some (.slice p.a3 X.ss.length p.c3))/\Hid (Below w.heap.size w w1)):=fun w1 Hb=>by
  obtain⟨Qj,_⟩:=zCR Hb
  refine⟨⟨?_,?_,?_,?_⟩,zA2 bl Hb⟩<;>(rw[Qj _ _ (by simp)];simp[go_sem])
 have HV:Hid (∀W,Hid (Below w.heap.size w W)->Calls Tryz.prog 64 #[.agg #[.int .i64 X.k,.slice p.a1 X.nl.length p.c1,.slice p.a2 X.ns.length p.c2,.slice p.a3 X.ss.length p.c3]] W fun e w'=>∃a6 c6,e=.returned (.slice a6 X.nl.length c6)/\Hid (zAR w' a6 (zAD X))/\Hid (Below W.heap.size W w')):=fun W hW=>by
  have:=zCJ X p W hs (hp.later hW)
  rw[zAM] at this
  refine this.mono fun e w' ⟨v,he,h1,h2⟩=>?_
  obtain⟨a6,c6,rfl,_,_,hr⟩:=zAC h1
  rw[zAb hg] at he
  exact⟨a6,c6,he,hr,h2⟩
 have QQ:Hid (∀W a6 c6,Hid (zAR W a6 (zAD X))->Hid (Below w.heap.size w W)->Calls Tryz.prog 66 #[.slice a6 X.nl.length c6] W fun e w'=>∃a7 c7,e=.returned (.slice a7 (zAA (zAD X)).length c7)/\Hid (zAV w' W.heap.size (.slice a7 (zAA (zAD X)).length c7) (zAA (zAD X)))/\Hid (Below W.heap.size W w')):=fun W a6 c6 hr hW=>by
  have:=zDZ a6 c6 (zAD X) W (by rw[zAb hg];exact Yf) hr
  rw[zAb hg] at this
  refine this.mono fun e w' ⟨v,he,h1,h2⟩=>?_
  obtain⟨a7,c7,rfl,_,_,_⟩:=zAC h1
  exact⟨a7,c7,he,h1,h2⟩
 have Zr:Hid (∀W B a7 c7,Hid (zAV W B (.slice a7 (zAA (zAD X)).length c7) (zAA (zAD X)))->Hid (Below w.heap.size w W)->Calls Tryz.prog 65 #[.slice a7 (zAA (zAD X)).length c7] W fun e w'=>∃S a8 c8,e=.returned (.slice a8 (zBx S S.length).length c8)/\Hid (S.Perm (zAA (zAD X))/\zBe S)/\Hid (zAR w' a8 (zBx S S.length))/\Hid (Below W.heap.size W w')):=fun W B a7 c7 ho hW=>by
  refine(zD1 B (zAA (zAD X)) _ W (Nat.le_trans (zC1 _) (by rw[zAb hg];exact Yf)) ho).mono fun e w' ⟨S,v,he,h1,h2,h3⟩=>?_
  obtain⟨a8,c8,rfl,_,_,hr⟩:=zAC h2
  exact⟨S,a8,c8,he,h1,hr,h3⟩
 have i0:¬(4096:Int)<(X.nl.length:Int):=by omega
 have hkd1:kd=1:=by omega
 subst hkd1
 have GJ:Hid (∀x∈zAA (zAD X),x.s.size<=1000):=fun x hx=>zCD hg (List.mem_filter.1 hx).1
 have QA:Hid ((zAA (zAD X)).length<=4096):=Nat.le_trans (zC1 _) (by rw[zAb hg];exact hl)
 have KN:=zA3 (zRn 4 1 (by omega) (by omega))
 have TP:(1:Int)<=2:=by omega
 obtain⟨ys,YE⟩:∃ys,Hid (ys=zAA (zAD X)):=⟨_,rfl⟩
 rw[<-zA0 YE] at QQ Zr GJ QA ⊢
 obtain⟨xs,ZT⟩:∃xs,Hid (xs=zAD X):=⟨_,rfl⟩
 rw[<-zA0 ZT] at HV QQ Qh ⊢
 rw[hk] at FACT HG HV ⊢
 have yS:Hid (ys=zAA xs):=by show _=_;rw[zA0 YE,zA0 ZT]
 have yT:Hid (∀S:List Val,S.Perm ys->(zBx S S.length).length<=4096):=fun S hp=>Nat.le_trans (zDi S S.length) (by rw[hp.length_eq];exact zA0 QA)
 clear hg bl hs hp hk YG h4
 go_enter Tryz.func63,Tryz.ntmps63
 go_upto_region 8 with (first
  | (go_at_call 69;refine(zA0 HG).mono ?_;rintro e w1 ⟨rfl,Hb⟩;obtain⟨⟨c0,c1,c2,c3⟩,Hw⟩:=zA0 FACT _ Hb;clear Hb)
  | (go_at_call 64;refine(zA0 HV _ Hw).mono ?_;rintro e w2 ⟨a6,c6,rfl,R6,Hh⟩;have YP:=zA3 (zA2 (zA0 Hw) (zA0 Hh)))
  | (go_at_call 66;refine(zA0 QQ _ _ _ R6 YP).mono ?_;rintro e w3 ⟨a7,c7,rfl,R7,Hz⟩;have YO:=zA3 (zA2 (zA0 YP) (zA0 Hz)))
  | (go_at_call 65;refine(zA0 Zr _ _ _ _ R7 YO).mono ?_;rintro e w4 ⟨S,a8,c8,rfl,HS,R8,Qe⟩;have Zu:((zBx S S.length).length:Int)<=4096:=(by have:=zA0 yT S (zA0 HS).1;omega))
  | fail)
 obtain⟨W5,GD⟩:∃W5,Hid (W5=w4.alloc (.cells #[.slice a8 (zBx S S.length).length c8] 37)):=⟨_,rfl⟩
 have RS:Hid (RSt w W5 1 xs ys (zBx S S.length) a6 a7 a8 c8 w4.heap.size):=by
  have b5:Below w4.heap.size w4 W5:=by rw[zA0 GD];exact zA1 (Below.refl _ _) _
  obtain⟨a7',c7',e7,_,_,r7⟩:=zAC (zA0 R7)
  injection e7 with e7 _ _
  subst e7
  exact⟨cell_later b5 (cell_later (zA0 Qe) (cell_later (zA0 Hz) (cell_later (zA0 Hh) c0))),(((zA0 R6).later (zA0 Hz)).later (zA0 Qe)).later b5,(r7.later (zA0 Qe)).later b5,(zA0 R8).later b5,by rw[zA0 GD];simp[go_sem],zA2 (zA2 (zA0 YO) (zA0 Qe)) b5⟩
 rw[<-zA0 GD]
 have JX:=(zA0 RS).k0
 have Dk:Hid (∃S,S.Perm ys/\zBe S/\zBx S S.length=zBx S S.length):=⟨S,(zA0 HS).1,(zA0 HS).2,rfl⟩
 obtain⟨Wd,qH⟩:∃Wd,Hid (Wd=zBx S S.length):=⟨_,rfl⟩
 rw[<-zA0 qH] at RS Zu ⊢
 obtain⟨B8,qJ⟩:∃B8,Hid (B8=w4.heap.size):=⟨_,rfl⟩
 rw[<-zA0 qJ] at RS ⊢
 clear c0 c1 c2 c3 Hw Hh Hz Qe YP YO R6 R7 R8 GD FACT HV QQ Zr HG yT Yf qJ Dk
 go_cut[9] (fun s9 wx=>s9=.string (toB ((beL (4:Int) 1 1++beL 1 1 1)++beL (X.nl.length:Int) 4 4))/\Hid (RSt w wx 1 xs ys Wd a6 a7 a8 c8 B8))
 case first=>
  as_aux_lemma=>
   have Qb:1<=2/\0<=1:=by omega
   have YC:=zA3 (fun W'=>zBK (X.nl.length:Int) 4 W' (by omega))
   obtain⟨T1,YX⟩:∃T1,Hid (toB [(4:Int),1]=T1):=⟨_,rfl⟩
   obtain⟨T2,GG⟩:∃T2,Hid (toB (beL (X.nl.length:Int) 4 4)=T2):=⟨_,rfl⟩
   have GE:T1.size+T2.size<=9223372036854775807:=by rw[<-zA0 YX,<-zA0 GG,zAN,zAN,zAK];simp
   have GF:Hid (T1++T2=toB ((beL (4:Int) 1 1++beL 1 1 1)++beL (X.nl.length:Int) 4 4)):=by
    show _=_
    rw[<-zA0 YX,<-zA0 GG,zAJ]
    exact congrArg (·++toB (beL (X.nl.length:Int) 4 4)) (zA0 KN)
   rw[zA0 GG] at YC
   have Ht:(fun w':World=>w'.cell? ⟨w.heap.size,0,none⟩=some (.int .i64 1)) W5.drew:=JX
   have RSC:Hid (RSt w W5.drew 1 xs ys Wd a6 a7 a8 c8 B8):=(zA0 RS).later ((Below.refl _ _).drew)
   clear JX RS
   refine wp_region_noPanic ?_
   refine zAu (S:=fun w':World=>w'.cell? ⟨w.heap.size,0,none⟩=some (.int .i64 1)) (k:=11) (by kernel_rfl) ?_
   refine zA6 (i:=0) (v:=(.int .i64 4)) [1,5,6,11] rfl (fun _ _ _ h=>h) (Or.inl ⟨by rfl,fun w' hSw=>?_⟩) Ht ?_
   ·dsimp only at hSw;go_simp;try (first|exact zCB Qb|rfl|exact zAW (by omega))
   try simp only[Act.put,zAI,zAH,zAG]
   refine zA6 (i:=1) (v:=(.int .u8 4)) [5,6,11] rfl (fun _ _ _ h=>h) (Or.inl ⟨by rfl,fun w' hSw=>?_⟩) Ht ?_
   ·dsimp only at hSw;go_simp;try (first|exact zCB Qb|rfl|exact zAW (by omega))
   try simp only[Act.put,zAI,zAH,zAG]
   refine zA6 (i:=2) (v:=(.pointer (some ⟨w.heap.size,0,none⟩))) [3,4,5,6,11] rfl (fun _ _ _ h=>h) (Or.inl ⟨by rfl,fun w' hSw=>?_⟩) Ht ?_
   ·dsimp only at hSw;go_simp;try (first|exact zCB Qb|rfl|exact zAW (by omega))
   try simp only[Act.put,zAI,zAH,zAG]
   refine zA6 (i:=3) (v:=(.int .i64 1)) [4,5,6,11] rfl (fun _ _ _ h=>h) (Or.inl ⟨by rfl,fun w' hSw=>?_⟩) Ht ?_
   ·dsimp only at hSw;go_simp;try (first|exact zCB Qb|rfl|exact zAW (by omega))
   try simp only[Act.put,zAI,zAH,zAG]
   refine zA6 (i:=4) (v:=(.int .u8 1)) [5,6,11] rfl (fun _ _ _ h=>h) (Or.inl ⟨by rfl,fun w' hSw=>?_⟩) Ht ?_
   ·dsimp only at hSw;go_simp;try (first|exact zCB Qb|rfl|exact zAW (by omega))
   try simp only[Act.put,zAI,zAH,zAG]
   refine zA6 (i:=7) (v:=(.slice a6 X.nl.length c6)) [8,9,10,11] rfl (fun _ _ _ h=>h) (Or.inl ⟨by rfl,fun w' hSw=>?_⟩) Ht ?_
   ·dsimp only at hSw;go_simp;try (first|exact zCB Qb|rfl|exact zAW (by omega))
   try simp only[Act.put,zAI,zAH,zAG]
   refine zA6 (i:=8) (v:=(.int .i64 X.nl.length)) [9,10,11] rfl (fun _ _ _ h=>h) (Or.inl ⟨by rfl,fun w' hSw=>?_⟩) Ht ?_
   ·dsimp only at hSw;go_simp;try (first|exact zCB Qb|rfl|exact zAW (by omega))
   try simp only[Act.put,zAI,zAH,zAG]
   refine zA6 (i:=9) (v:=(.int .u64 X.nl.length)) [10,11] rfl (fun _ _ _ h=>h) (Or.inl ⟨by rfl,fun w' hSw=>?_⟩) Ht ?_
   ·dsimp only at hSw;go_simp;try (first|exact zCB Qb|rfl|exact zAW (by omega))
   try simp only[Act.put,zAI,zAH,zAG]
   clear Ht
   refine zBF [5,10] (by kernel_rfl) (by simp) ?_
   intro i hi
   simp only[List.mem_cons,List.not_mem_nil,or_false] at hi
   rcases hi with rfl|rfl
   ·refine zA4 rfl (by rfl) fun K hK=>?_
    go_simp
    have YH:Hid (zBC (W5.alloc (.cells #[.int .u8 (4:Int),.int .u8 1] 5)).drew 0 (.slice (some ⟨W5.heap.size,0,none⟩) 2 2) [(4:Int),1]):=World.ownsRow.drew (zE5 W5 (4:Int) 1)
    have RSB:Hid (RSt w (W5.alloc (.cells #[.int .u8 (4:Int),.int .u8 1] 5)).drew 1 xs ys Wd a6 a7 a8 c8 B8):=(zA0 RSC).later ((zA1 (Below.refl _ W5.drew) (.cells #[.int .u8 (4:Int),.int .u8 1] 5)))
    refine zA0 hK _ _ ⟨fun _=>(zA0 RSB).k0,?_⟩
    clear hK K
    generalize yi:(W5.alloc (.cells #[.int .u8 (4:Int),.int .u8 1] 5)).drew=WB at *
    clear yi
    refine zBF [6,10] (by kernel_rfl) (by simp) ?_
    intro i hi
    simp only[List.mem_cons,List.not_mem_nil,or_false] at hi
    rcases hi with rfl|rfl
    ·refine zA4 rfl (by rfl) fun K hK=>?_
     have Qm:=zAe (zA0 YH)
     rw[zA0 YX] at Qm
     go_simp
     refine zA0 hK _ _ ⟨fun _=>(zA0 RSB).k0,?_⟩
     clear hK K Qm
     refine zA7 (i:=10) (by kernel_rfl) ?_
     refine zA4 rfl (by rfl) fun K hK=>?_
     go_simp
     refine(zA0 YC _).mono ?_
     rintro e w9 ⟨rfl,Ho⟩
     have RS9:=zA3 ((zA0 RSB).later Ho)
     clear Ho
     go_simp
     refine zA0 hK _ _ ⟨fun _=>(zA0 RS9).k0,?_⟩
     clear hK K
     refine zA7 (i:=11) (by kernel_rfl) ?_
     refine zA4 rfl (by rfl) fun K hK=>?_
     go_simp
     rw[if_neg (Nat.not_lt.2 GE)]
     go_simp
     refine zA0 hK _ _ ⟨fun hh=>absurd hh (by decide),?_⟩
     clear hK K
     refine zA7 (i:=12) (by kernel_rfl) ?_
     refine zA4 rfl (by rfl) fun K hK=>?_
     go_simp
     refine zA0 hK _ _ ⟨fun hh=>absurd hh (by decide),?_⟩
     clear hK K
     refine zAl (by kernel_rfl) ?_ _
     refine NoPanic.normal ?_
     go_wp2
     go_meet
     exact⟨by rw[zA0 GF],zA0 RS9⟩
    ·refine zA4 rfl (by rfl) fun K hK=>?_
     go_simp
     refine(zA0 YC _).mono ?_
     rintro e w9 ⟨rfl,Ho⟩
     have RS9:=zA3 ((zA0 RSB).later Ho)
     replace YH:=zA3 (zAc (zA0 YH) Ho)
     clear Ho
     go_simp
     refine zA0 hK _ _ ⟨fun _=>(zA0 RS9).k0,?_⟩
     clear hK K
     refine zA7 (i:=6) (by kernel_rfl) ?_
     refine zA4 rfl (by rfl) fun K hK=>?_
     have Qm:=zAe (zA0 YH)
     rw[zA0 YX] at Qm
     go_simp
     refine zA0 hK _ _ ⟨fun _=>(zA0 RS9).k0,?_⟩
     clear hK K Qm
     refine zA7 (i:=11) (by kernel_rfl) ?_
     refine zA4 rfl (by rfl) fun K hK=>?_
     go_simp
     rw[if_neg (Nat.not_lt.2 GE)]
     go_simp
     refine zA0 hK _ _ ⟨fun hh=>absurd hh (by decide),?_⟩
     clear hK K
     refine zA7 (i:=12) (by kernel_rfl) ?_
     refine zA4 rfl (by rfl) fun K hK=>?_
     go_simp
     refine zA0 hK _ _ ⟨fun hh=>absurd hh (by decide),?_⟩
     clear hK K
     refine zAl (by kernel_rfl) ?_ _
     refine NoPanic.normal ?_
     go_wp2
     go_meet
     exact⟨by rw[zA0 GF],zA0 RS9⟩
   ·refine zA4 rfl (by rfl) fun K hK=>?_
    go_simp
    refine(zA0 YC _).mono ?_
    rintro e w9 ⟨rfl,Ho⟩
    have RS9:=zA3 ((zA0 RSC).later Ho)
    clear Ho
    go_simp
    refine zA0 hK _ _ ⟨fun _=>(zA0 RS9).k0,?_⟩
    clear hK K
    refine zA7 (i:=5) (by kernel_rfl) ?_
    refine zA4 rfl (by rfl) fun K hK=>?_
    go_simp
    have YH:=zA3 (zE5 w9 (4:Int) 1)
    have RSB:=zA3 ((zA0 RS9).later (zA1 (Below.refl _ w9) (.cells #[.int .u8 (4:Int),.int .u8 1] 5)))
    refine zA0 hK _ _ ⟨fun _=>(zA0 RSB).k0,?_⟩
    clear hK K
    refine zA7 (i:=6) (by kernel_rfl) ?_
    refine zA4 rfl (by rfl) fun K hK=>?_
    have Qm:=zAe (zA0 YH)
    rw[zA0 YX] at Qm
    go_simp
    refine zA0 hK _ _ ⟨fun _=>(zA0 RSB).k0,?_⟩
    clear hK K Qm
    refine zA7 (i:=11) (by kernel_rfl) ?_
    refine zA4 rfl (by rfl) fun K hK=>?_
    go_simp
    rw[if_neg (Nat.not_lt.2 GE)]
    go_simp
    refine zA0 hK _ _ ⟨fun hh=>absurd hh (by decide),?_⟩
    clear hK K
    refine zA7 (i:=12) (by kernel_rfl) ?_
    refine zA4 rfl (by rfl) fun K hK=>?_
    go_simp
    refine zA0 hK _ _ ⟨fun hh=>absurd hh (by decide),?_⟩
    clear hK K
    refine zAl (by kernel_rfl) ?_ _
    refine NoPanic.normal ?_
    go_wp2
    go_meet
    exact⟨by rw[zA0 GF],zA0 RSB⟩
 case rest=>
  obtain⟨rfl,RX⟩:=hcut
  rename World=>wx
  obtain⟨bb,e85⟩:∃bb,((ys.length:Int) == (X.nl.length:Int))=bb:=⟨_,rfl⟩
  go_upto_if 85 with fail
  go_cut[9] (fun s9 wy=>s9=.string (toB (zB2 4 1 xs))/\Hid (RSt w wy 1 xs ys Wd a6 a7 a8 c8 B8))
  case first=>
   as_aux_lemma=>
    have GM:Hid (toB (zB2 4 1 xs)=toB ((beL (4:Int) 1 1++beL 1 1 1)++beL (X.nl.length:Int) 4 4)++toB (zBT xs)):=by
     show _=_
     rw[zB2,zAJ,zA0 Qh]
     rfl
    obtain⟨T3,yR⟩:∃T3,Hid (toB ((beL (4:Int) 1 1++beL 1 1 1)++beL (X.nl.length:Int) 4 4)=T3):=⟨_,rfl⟩
    have FZ:T3.size<=100:=by rw[<-zA0 yR,zAN,zAX,zAX,zAK,zAK,zAK];omega
    rw[zA0 yR] at GM ⊢
    have QX:=zA3 e85
    clear e85
    cases bb
    rotate_left 1
    ·have QD:ys.length=X.nl.length:=by have h:=zA0 QX;simp at h;omega
     have YA:Hid (toB (zBT xs)=⟨#[0]⟩):=by
      show _=_
      rw[zGN (by rw[<-zA0 yS,QD,zA0 Qh])]
      rfl
     clear QD
     go_wp2
     go_meet
     exact⟨by rw[zA0 GM,zA0 YA],RX⟩
    ·have QD:¬ys.length=X.nl.length:=by have h:=zA0 QX;simp at h;omega
     have YA:Hid (toB (zBT xs)=(⟨#[1]⟩:ByteArray)++toB (leB (zBG 1 (zAS xs)) (zAO xs.length 1))):=by
      show _=_
      rw[zFK (by rw[<-zA0 yS,zA0 Qh];exact QD),zAJ]
      rfl
     have ZK:Hid ((zAS xs).length=X.nl.length):=by show _=_;rw[<-zA0 Qh];simp[zAS]
     clear QD
     have QM:∀W:World,(Instr.field 59 (.agg #[.int .i64 1,.int .i64 1,.string ⟨#[]⟩]) 1).run Tryz.prog W=.ok (.int .i64 1) W:=fun _=>by kernel_rfl
     have DW:∀W:World,(Instr.field 59 (.agg #[.int .i64 1,.int .i64 0,.string ⟨#[]⟩]) 1).run Tryz.prog W=.ok (.int .i64 0) W:=fun _=>by kernel_rfl
     go_wp2_with fail
     go_loopw[10,90] (fun s10 s wr=>∃k:Nat,k<=X.nl.length/\s=.int .i64 (k:Int)/\zKE wr wx.heap.size s10 ((zAS xs).take k)/\Below wx.heap.size wx wr) (fun _ s _=>X.nl.length-(intOf s).toNat)
     case atStart=>exact⟨0,Nat.zero_le _,rfl,World.ownsRow_nil _ _ _ _,Below.refl _ _⟩
     case round=>
      obtain⟨k,hk,rfl,ho,hb⟩:=hrel
      by_cases h8:k<X.nl.length
      ·have h9:(k:Int)<(X.nl.length:Int):=by omega
       obtain⟨x,hx⟩:∃x,xs[k]?=some x:=⟨_,zAf (by rw[zA0 Qh];exact h8)⟩
       rcases((zA0 RX).later hb).r6 with e|⟨rb,ro,rfl,hc⟩
       ·rw[e] at hx;cases hx
       obtain⟨d0,d1,d2⟩:=hc k x hx
       have bl:=zA1 (Below.refl _ wr) (.cells #[.int .i64 x.k,.int .i64 x.n,.string x.s] 59)
       have YU:=zA3 (ho.later bl)
       have Qa:=zA3 (zA2 hb bl)
       have Yq:((zAS xs).take k).length<=1048576:=by rw[List.length_take];omega
       have Yt:=zA3 Yq
       have Zc:Hid ((zAS xs).take (k+1)=(zAS xs).take k++[if zAr x then 1 else 0]):=by
        show _=_
        have h2:(zAS xs)[k]?=some (if zAr x then 1 else 0):=by simp[zAS,hx]
        obtain⟨h3,h4⟩:=zAL h2
        rw[List.take_succ_eq_append_getElem h3,h4]
       clear hc hx ho hb bl Yq
       rcases Bool.eq_false_or_eq_true (zAr x) with e1|e1
       ·have e2:(x.k == 0)=true:=e1
        rw[e1,if_pos rfl] at Zc
        clear e1
        go_wp2_with (first
         | (go_at_call 82;refine(zEY _).mono ?_;rintro e w9 ⟨rfl,Ho⟩;have Je:=zA3 ((zA0 YU).later Ho);have YD:=zA3 (zA2 (zA0 Qa) Ho);clear Ho)
         | (at_builtin;refine zAx w9 1 rfl (.tmp 94) (.tmp 101) rfl wx.heap.size _ _ rfl rfl (zA0 Je) (zA0 Yt) (zA0 YD).size ?_;intro v1 w8 g1 g2;replace g1:=zA3 g1;replace g2:=zA3 g2))
        go_roundw
        case rel=>exact⟨k+1,by omega,by go_num,by rw[zA0 Zc];exact zA0 g1,(zA0 YD).trans (zA0 g2)⟩
        case measure=>first | (simp[intOf];omega) | (simp only[intOf];omega)
       ·have e2:(x.k == 0)=false:=e1
        rw[e1,if_neg (by simp)] at Zc
        clear e1
        go_wp2_with (first
         | (go_at_call 82;refine(zFE _).mono ?_;rintro e w9 ⟨rfl,Ho⟩;have Je:=zA3 ((zA0 YU).later Ho);have YD:=zA3 (zA2 (zA0 Qa) Ho);clear Ho)
         | (at_builtin;refine zAx w9 0 rfl (.tmp 94) (.tmp 101) rfl wx.heap.size _ _ rfl rfl (zA0 Je) (zA0 Yt) (zA0 YD).size ?_;intro v1 w8 g1 g2;replace g1:=zA3 g1;replace g2:=zA3 g2))
        go_roundw
        case rel=>exact⟨k+1,by omega,by go_num,by rw[zA0 Zc];exact zA0 g1,(zA0 YD).trans (zA0 g2)⟩
        case measure=>first | (simp[intOf];omega) | (simp only[intOf];omega)
      ·have h9:¬(k:Int)<(X.nl.length:Int):=by omega
       have Qk:k=(zAS xs).length:=by rw[zA0 ZK];omega
       rw[Qk,List.take_length] at ho
       obtain⟨a10,c10,e10,Qv⟩:=ho.lis
       have Gu:=zA3 (zDb a10 c10 (zAS xs) 1 wr (by rw[zA0 ZK];omega) (by omega) (fun m hm=>by
        obtain⟨x,_,rfl⟩:=List.mem_map.1 hm
        split<;>decide) Qv)
       have RZ:=zA3 ((zA0 RX).later hb)
       subst e10
       obtain⟨T4,ZG⟩:∃T4,Hid (toB (leB (zBG 1 (zAS xs)) (zAO (zAS xs).length 1))=T4):=⟨_,rfl⟩
       have yQ:T4.size<=1000:=by
        rw[<-zA0 ZG,zAN,zBw,zA0 ZK]
        unfold zAO
        omega
       have JM:Hid (toB (zB2 4 1 xs)=T3++((⟨#[1]⟩:ByteArray)++T4)):=by
        show _=_
        rw[zA0 GM,zA0 YA,<-zA0 ZG,zA0 ZK,zA0 Qh]
       rw[zA0 ZG] at Gu
       have Fv:((⟨#[1]⟩:ByteArray)++T4).size=1+T4.size:=by rw[ByteArray.size_append];rfl
       clear ho hb Qk Qv GM YA
       go_wp2_with (go_at_call 83;refine(zA0 Gu).mono ?_;rintro e w7 ⟨rfl,Qx⟩;replace Qx:=zA3 Qx)
       go_meet
       exact⟨by rw[zA0 JM],(zA0 RZ).later (zA0 Qx)⟩
  case rest=>
   obtain⟨rfl,RY⟩:=hcut
   clear e85
   rename World=>wy
   have Gw:=zA0 QA
   have Dk:Hid (0<ys.length->0<Wd.length):=fun h=>by rw[zA0 qH];exact zSs (by rw[(zA0 HS).1.length_eq];exact h)
   have HWZ:Hid (ys.length=0->Wd.length=0):=fun h=>by rw[zA0 qH];have h3:S.length=0:=(by rw[(zA0 HS).1.length_eq];exact h);have:=(zKP S).length_le;omega
   have qg:Hid ((toB (zB2 4 1 xs)).size<=1000000):=by
    show _<=_
    rw[zAN]
    have:=zDc xs (by rw[zA0 Qh];exact hl)
    simp only[zB2,zAX,zAK]
    omega
   obtain⟨T0,JA⟩:∃T0,Hid (toB (zB2 4 1 xs)=T0):=⟨_,rfl⟩
   have hT0s:T0.size<=1000000:=by rw[<-zA0 JA];exact zA0 qg
   rw[zA0 JA]
   obtain⟨ls,DP⟩:∃ls,Hid (ls=zDO Wd):=⟨_,rfl⟩
   obtain⟨lt,He⟩:∃lt,Hid (lt=zH0 Wd):=⟨_,rfl⟩
   obtain⟨bb,e220⟩:∃bb,decide (0<ys.length)=bb:=⟨_,rfl⟩
   go_upto_if 220 with fail
   go_cut[25,26] (fun s25 s26 wz=>s25=.int .u64 (IntKind.u64.wrap ls)/\s26=.int .u64 (IntKind.u64.wrap lt)/\Hid (RSt w wz 1 xs ys Wd a6 a7 a8 c8 B8))
   case first=>
    have QX:=zA3 e220
    clear e220
    cases bb
    ·have hz:ys.length=0:=by have h:=zA0 QX;simp only[decide_eq_false_iff_not] at h;omega
     have h1:=zA0 HWZ hz
     have JK:Hid (ls=0/\lt=0):=by
      refine⟨?_,?_⟩
      ·rw[zA0 DP,zDO,if_pos h1]
      ·rw[zA0 He,zH0,if_pos h1]
     clear hz h1
     go_wp2
     go_meet
     exact⟨by rw[(zA0 JK).1];rfl,by rw[(zA0 JK).2];rfl,RY⟩
    ·have hz:0<ys.length:=by have h:=zA0 QX;simpa only[decide_eq_true_eq] using h
     have h1:=zA0 Dk hz
     obtain⟨q,hq⟩:∃q,q=Wd.length-1:=⟨_,rfl⟩
     have eq1:(Wd.length:Int)-1=(q:Int):=by omega
     have i5:(q:Int)<(Wd.length:Int):=by omega
     have i6:(0:Int)<(Wd.length:Int):=by omega
     have cB:=(zA0 RY).b8
     rcases(zA0 RY).r8 with e|⟨rb,ro,rfl,hc⟩
     ·rw[e] at h1;simp at h1
     obtain⟨_,f1,_⟩:=hc 0 _ (zB0 h1)
     obtain⟨_,g1,_⟩:=hc q _ (zB0 (show q<Wd.length by omega))
     have e1:(atL Wd 0).n=ls:=by rw[zA0 DP,zDO,if_neg (by omega)]
     have e2:(atL Wd q).n=lt:=by rw[zA0 He,zH0,if_neg (by omega),hq]
     rw[e1] at f1
     rw[e2] at g1
     rw[Nat.zero_mul,Nat.add_zero] at f1
     clear hc hz h1 hq e1 e2
     go_upto_region 55 with fail
     have k0:=cell_regrown f1
     have k1:=cell_regrown g1
     have k2:=cell_regrown cB
     clear f1 g1 cB
     refine wp_region_quiet_below (by kernel_rfl) (by kernel_rfl) ?_
     repeat (go_big_quiet_step (first | (go_at_call 85;exact Calls.regrown_of (zCd Val.null Val.null _))))
     refine wpQuiet_nil ?_
     intro w' Hp
     have hB:Below wy.heap.size wy w':=by obtain⟨p,rfl⟩:=Hp;exact below_regrown _ _ _
     clear Hp
     go_wp2
     go_meet
     exact⟨rfl,rfl,(zA0 RY).later hB⟩
   case rest=>
    obtain⟨rfl,rfl,RZ⟩:=hcut
    clear e220
    rename World=>wz
    have e56:IntKind.u64.wrap (IntKind.u64.wrap lt-IntKind.u64.wrap ls)=(zKD Wd:Int):=by rw[zA0 DP,zA0 He];exact zPz Wd
    have HFL:=zA3 (zL5 Wd)
    have YY:=zA3 (fun W'=>zFf (zKD Wd) W' (zL5 Wd))
    have Kg:bl (zKD Wd)<=64:=zFr (by have:=zL5 Wd;simpa using this)
    have HOR:Hid (zJd Wd ys=(beL (IntKind.u64.wrap ls) 8 8++beL (bl (zKD Wd):Int) 1 1)++leB (zBG (bl (zKD Wd)) (ys.map (zCl ls))) (zAO ys.length (bl (zKD Wd)))):=by
     show _=_
     rw[zJd,zA0 DP]
     rfl
    generalize bl (zKD Wd)=DD at *
    generalize zKD Wd=FN at *
    go_upto_region 57 with (first | (go_at_call 88;refine(zA0 YY _).mono ?_;rintro e w7 ⟨rfl,rfl⟩)|fail)
    clear e56
    go_cut[9] (fun s9 wv=>s9=.string (toB (zB2 4 1 xs++(beL (IntKind.u64.wrap ls) 8 8++beL (DD:Int) 1 1)))/\Hid (RSt w wv 1 xs ys Wd a6 a7 a8 c8 B8))
    case first=>
     as_aux_lemma=>
      rename World=>wz
      have YC:=zA3 (fun W'=>zBK (IntKind.u64.wrap ls) 8 W' (by omega))
      obtain⟨T1,YX⟩:∃T1,Hid (toB [(DD:Int)]=T1):=⟨_,rfl⟩
      obtain⟨T2,GG⟩:∃T2,Hid (toB (beL (IntKind.u64.wrap ls) 8 8)=T2):=⟨_,rfl⟩
      have hT1s:T1.size<=10:=by rw[<-zA0 YX,zAN];simp
      have hT2s:T2.size<=10:=by rw[<-zA0 GG,zAN,zAK];omega
      have hTs1:T2.size+T1.size<=9223372036854775807:=by omega
      have hTs2:T0.size+(T2++T1).size<=9223372036854775807:=by rw[ByteArray.size_append];omega
      have GF:Hid (T0++(T2++T1)=toB (zB2 4 1 xs++(beL (IntKind.u64.wrap ls) 8 8++beL (DD:Int) 1 1))):=by
       show _=_
       rw[<-zA0 YX,<-zA0 GG,zUA Kg,zAJ,zAJ,zA0 JA]
      rw[zA0 GG] at YC
      have Ht:(fun _:World=>True) wz.drew:=trivial
      have RSC:Hid (RSt w wz.drew 1 xs ys Wd a6 a7 a8 c8 B8):=(zA0 RZ).later ((Below.refl _ _).drew)
      refine wp_region_noPanic ?_
      refine zAu (S:=fun _:World=>True) (k:=8) (by kernel_rfl) ?_
      refine zA6 (i:=0) (v:=(.string T0)) [8] rfl (fun _ _ _ h=>h) (Or.inl ⟨by rfl,fun w' hSw=>?_⟩) Ht ?_
      ·go_simp;try (first|exact zLM Kg|rfl)
      try simp only[Act.put,zAI,zAH,zAG]
      refine zA6 (i:=1) (v:=(.int .u64 (IntKind.u64.wrap ls))) [2,7,8] rfl (fun _ _ _ h=>h) (Or.inl ⟨by rfl,fun w' hSw=>?_⟩) Ht ?_
      ·go_simp;try (first|exact zLM Kg|rfl)
      try simp only[Act.put,zAI,zAH,zAG]
      refine zA6 (i:=3) (v:=(.int .i64 (DD:Int))) [4,5,6,7,8] rfl (fun _ _ _ h=>h) (Or.inl ⟨by rfl,fun w' hSw=>?_⟩) Ht ?_
      ·go_simp;try (first|exact zLM Kg|rfl)
      try simp only[Act.put,zAI,zAH,zAG]
      refine zA6 (i:=4) (v:=(.int .u8 (DD:Int))) [5,6,7,8] rfl (fun _ _ _ h=>h) (Or.inl ⟨by rfl,fun w' hSw=>?_⟩) Ht ?_
      ·go_simp;try (first|exact zLM Kg|rfl)
      try simp only[Act.put,zAI,zAH,zAG]
      clear Ht
      refine zBF [2,5] (by kernel_rfl) (by simp) ?_
      intro i hi
      simp only[List.mem_cons,List.not_mem_nil,or_false] at hi
      rcases hi with rfl|rfl
      rotate_left 1
      ·refine zA4 rfl (by rfl) fun K hK=>?_
       go_simp
       have YH:Hid (zBC (wz.alloc (.cells #[.int .u8 (DD:Int)] 5)).drew 0 (.slice (some ⟨wz.heap.size,0,none⟩) 1 1) [(DD:Int)]):=World.ownsRow.drew (zPC wz (DD:Int))
       have RSB:Hid (RSt w (wz.alloc (.cells #[.int .u8 (DD:Int)] 5)).drew 1 xs ys Wd a6 a7 a8 c8 B8):=(zA0 RSC).later (zA1 (Below.refl _ wz.drew) (.cells #[.int .u8 (DD:Int)] 5))
       refine zA0 hK _ _ ⟨fun _=>trivial,?_⟩
       clear hK K
       generalize yi:(wz.alloc (.cells #[.int .u8 (DD:Int)] 5)).drew=WB at *
       clear yi
       refine zBF [2,6] (by kernel_rfl) (by simp) ?_
       intro i hi
       simp only[List.mem_cons,List.not_mem_nil,or_false] at hi
       rcases hi with rfl|rfl
       ·refine zA4 rfl (by rfl) fun K hK=>?_
        go_simp
        refine(zA0 YC _).mono ?_
        rintro e w9 ⟨rfl,Ho⟩
        have RS9:=zA3 ((zA0 RSB).later Ho)
        replace YH:=zA3 (zAc (zA0 YH) Ho)
        clear Ho
        go_simp
        refine zA0 hK _ _ ⟨fun _=>trivial,?_⟩
        clear hK K
        refine zA7 (i:=6) (by kernel_rfl) ?_
        refine zA4 rfl (by rfl) fun K hK=>?_
        have Qm:=zAe (zA0 YH)
        rw[zA0 YX] at Qm
        go_simp
        refine zA0 hK _ _ ⟨fun _=>trivial,?_⟩
        clear hK K Qm
        refine zA7 (i:=7) (by kernel_rfl) ?_
        refine zA4 rfl (by rfl) fun K hK=>?_
        go_simp
        (try (rw[if_neg (by omega)];go_simp))
        refine zA0 hK _ _ ⟨fun _=>trivial,?_⟩
        clear hK K
        refine zA7 (i:=8) (by kernel_rfl) ?_
        refine zA4 rfl (by rfl) fun K hK=>?_
        go_simp
        (try (rw[if_neg (by(try simp only[ByteArray.size_append]);omega)];go_simp))
        refine zA0 hK _ _ ⟨fun hh=>absurd hh (by decide),?_⟩
        clear hK K
        refine zA7 (i:=9) (by kernel_rfl) ?_
        refine zA4 rfl (by rfl) fun K hK=>?_
        go_simp
        refine zA0 hK _ _ ⟨fun hh=>absurd hh (by decide),?_⟩
        clear hK K
        refine zAl (by kernel_rfl) ?_ _
        refine NoPanic.normal ?_
        go_wp2
        go_meet
        exact⟨by rw[zA0 GF],zA0 RS9⟩
       ·refine zA4 rfl (by rfl) fun K hK=>?_
        have Qm:=zAe (zA0 YH)
        rw[zA0 YX] at Qm
        go_simp
        refine zA0 hK _ _ ⟨fun _=>trivial,?_⟩
        clear hK K Qm
        refine zA7 (i:=2) (by kernel_rfl) ?_
        refine zA4 rfl (by rfl) fun K hK=>?_
        go_simp
        refine(zA0 YC _).mono ?_
        rintro e w9 ⟨rfl,Ho⟩
        have RS9:=zA3 ((zA0 RSB).later Ho)
        clear Ho
        go_simp
        refine zA0 hK _ _ ⟨fun _=>trivial,?_⟩
        clear hK K
        refine zA7 (i:=7) (by kernel_rfl) ?_
        refine zA4 rfl (by rfl) fun K hK=>?_
        go_simp
        (try (rw[if_neg (by omega)];go_simp))
        refine zA0 hK _ _ ⟨fun _=>trivial,?_⟩
        clear hK K
        refine zA7 (i:=8) (by kernel_rfl) ?_
        refine zA4 rfl (by rfl) fun K hK=>?_
        go_simp
        (try (rw[if_neg (by(try simp only[ByteArray.size_append]);omega)];go_simp))
        refine zA0 hK _ _ ⟨fun hh=>absurd hh (by decide),?_⟩
        clear hK K
        refine zA7 (i:=9) (by kernel_rfl) ?_
        refine zA4 rfl (by rfl) fun K hK=>?_
        go_simp
        refine zA0 hK _ _ ⟨fun hh=>absurd hh (by decide),?_⟩
        clear hK K
        refine zAl (by kernel_rfl) ?_ _
        refine NoPanic.normal ?_
        go_wp2
        go_meet
        exact⟨by rw[zA0 GF],zA0 RS9⟩
      ·refine zA4 rfl (by rfl) fun K hK=>?_
       go_simp
       refine(zA0 YC _).mono ?_
       rintro e w9 ⟨rfl,Ho⟩
       have RS9:=zA3 ((zA0 RSC).later Ho)
       clear Ho
       go_simp
       refine zA0 hK _ _ ⟨fun _=>trivial,?_⟩
       clear hK K
       refine zA7 (i:=5) (by kernel_rfl) ?_
       refine zA4 rfl (by rfl) fun K hK=>?_
       go_simp
       have YH:Hid (zBC (w9.alloc (.cells #[.int .u8 (DD:Int)] 5)) 0 (.slice (some ⟨w9.heap.size,0,none⟩) 1 1) [(DD:Int)]):=zPC w9 (DD:Int)
       have RSB:Hid (RSt w (w9.alloc (.cells #[.int .u8 (DD:Int)] 5)) 1 xs ys Wd a6 a7 a8 c8 B8):=(zA0 RS9).later (zA1 (Below.refl _ w9) (.cells #[.int .u8 (DD:Int)] 5))
       refine zA0 hK _ _ ⟨fun _=>trivial,?_⟩
       clear hK K
       refine zA7 (i:=6) (by kernel_rfl) ?_
       refine zA4 rfl (by rfl) fun K hK=>?_
       have Qm:=zAe (zA0 YH)
       rw[zA0 YX] at Qm
       go_simp
       refine zA0 hK _ _ ⟨fun _=>trivial,?_⟩
       clear hK K Qm
       refine zA7 (i:=7) (by kernel_rfl) ?_
       refine zA4 rfl (by rfl) fun K hK=>?_
       go_simp
       (try (rw[if_neg (by omega)];go_simp))
       refine zA0 hK _ _ ⟨fun _=>trivial,?_⟩
       clear hK K
       refine zA7 (i:=8) (by kernel_rfl) ?_
       refine zA4 rfl (by rfl) fun K hK=>?_
       go_simp
       (try (rw[if_neg (by(try simp only[ByteArray.size_append]);omega)];go_simp))
       refine zA0 hK _ _ ⟨fun hh=>absurd hh (by decide),?_⟩
       clear hK K
       refine zA7 (i:=9) (by kernel_rfl) ?_
       refine zA4 rfl (by rfl) fun K hK=>?_
       go_simp
       refine zA0 hK _ _ ⟨fun hh=>absurd hh (by decide),?_⟩
       clear hK K
       refine zAl (by kernel_rfl) ?_ _
       refine NoPanic.normal ?_
       go_wp2
       go_meet
       exact⟨by rw[zA0 GF],zA0 RSB⟩
    case rest=>
     obtain⟨rfl,RV⟩:=hcut
     rename World=>w6
     obtain⟨T,hT⟩:∃T,Hid (T=toB (zB2 4 1 xs++(beL (IntKind.u64.wrap ls) 8 8++beL (DD:Int) 1 1))):=⟨_,rfl⟩
     have GE:T.size<=1000100:=by
      rw[zA0 hT,zAJ,ByteArray.size_append,zA0 JA,zAN,zAX,zAK,zAK]
      omega
     rw[<-zA0 hT]
     go_wp2_with fail
     go_loopw[28,249] (fun s28 s wr=>∃k:Nat,k<=ys.length/\s=.int .i64 (k:Int)/\zKE wr w6.heap.size s28 ((ys.map (zCl ls)).take k)/\Below w6.heap.size w6 wr) (fun _ s _=>ys.length-(intOf s).toNat)
     case atStart=>exact⟨0,Nat.zero_le _,rfl,World.ownsRow_nil _ _ _ _,Below.refl _ _⟩
     case round=>
      obtain⟨k,hk,rfl,ho,hb⟩:=hrel
      by_cases h8:k<ys.length
      ·have h9:(k:Int)<(ys.length:Int):=by omega
       obtain⟨x,hx⟩:∃x,ys[k]?=some x:=⟨_,zAf h8⟩
       rcases((zA0 RV).later hb).r7 with e|⟨rb,ro,rfl,hc⟩
       ·rw[e] at hx;cases hx
       obtain⟨d0,d1,d2⟩:=hc k x hx
       have bl:=zA1 (Below.refl _ wr) (.cells #[.int .i64 x.k,.int .i64 x.n,.string x.s] 59)
       have YU:=zA3 (ho.later bl)
       have Qa:=zA3 (zA2 hb bl)
       have Yt:Hid (((ys.map (zCl ls)).take k).length<=1048576):=by show _<=_;rw[List.length_take];omega
       have Zc:Hid ((ys.map (zCl ls)).take (k+1)=(ys.map (zCl ls)).take k++[zCl ls x]):=by
        show _=_
        have h2:(ys.map (zCl ls))[k]?=some (zCl ls x):=by simp[hx]
        obtain⟨h3,h4⟩:=zAL h2
        rw[List.take_succ_eq_append_getElem h3,h4]
       have hw1:=zJe ls x
       generalize zCl ls x=pp at *
       clear hc hx ho hb bl
       go_wp2_with (at_builtin;refine zF6 (wr.alloc (.cells #[.int .i64 x.k,.int .i64 x.n,.string x.s] 59)) pp (wr.heap.size+1) (by simp) rfl (.tmp 253) (.tmp 259) rfl w6.heap.size _ _ rfl rfl (zA0 YU) (zA0 Yt) (zA0 Qa).size ?_;intro v1 w8 g1 g2;replace g1:=zA3 g1;replace g2:=zA3 g2)
       go_roundw
       case rel=>exact⟨k+1,by omega,by go_num,by rw[zA0 Zc];exact zA0 g1,(zA0 Qa).trans (zA0 g2)⟩
       case measure=>first | (simp[intOf];omega) | (simp only[intOf];omega)
      ·have h9:¬(k:Int)<(ys.length:Int):=by omega
       have Qk:k=(ys.map (zCl ls)).length:=by rw[List.length_map];omega
       rw[Qk,List.take_length] at ho
       obtain⟨a10,c10,e10,Qv⟩:=ho.lis
       have Gu:=zA3 (zDb a10 c10 (ys.map (zCl ls)) DD wr (by rw[List.length_map];omega) Kg (fun m hm=>by
        obtain⟨x,_,rfl⟩:=List.mem_map.1 hm
        exact zKu ls x) Qv)
       have DA:=zA3 (zA2 (zA0 RV).bel hb)
       subst e10
       rw[List.length_map] at Gu
       obtain⟨T4,ZG⟩:∃T4,Hid (toB (leB (zBG DD (ys.map (zCl ls))) (zAO ys.length DD))=T4):=⟨_,rfl⟩
       have yQ:T4.size<=1000000:=by
        rw[<-zA0 ZG,zAN,zBw]
        have h7:ys.length*DD<=4096*64:=Nat.mul_le_mul Gw Kg
        unfold zAO
        omega
       have JM:Hid (T++T4=toB (zB2 4 1 xs++zJd Wd ys)):=by
        show _=_
        rw[zA0 hT,<-zA0 ZG,zA0 HOR,<-zAJ,List.append_assoc]
       rw[zA0 ZG] at Gu
       have Ku:Hid (∃S,S.Perm ys/\zBe S/\zJd Wd ys=zJd (zBx S S.length) ys):=⟨S,(zA0 HS).1,(zA0 HS).2,by rw[zA0 qH]⟩
       clear ho hb Qk Qv
       go_wp2_with (go_at_call 83;refine(zA0 Gu).mono ?_;rintro e w7 ⟨rfl,Qx⟩;replace Qx:=zA3 Qx)
       refine bodyPost_ret (v:=.tuple #[.string (T++T4),.int .i64 0]) (by simp[results,Tryz.results63,go_sem]) rfl ⟨zJd Wd ys,by rw[zA0 JM],.inr (.inr (.inr ⟨rfl,zA0 Ku⟩)),zA2 (zA0 DA) (zA0 Qx)⟩
end Go.Proofs.YtekgpapophibcaaGreat
